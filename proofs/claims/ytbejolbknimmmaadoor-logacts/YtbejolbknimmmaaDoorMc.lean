/- The reference's Number: a number's low bytes, so many, the highest first. -/
import Derived.Test.YtbejolbknimmmaaDoorMb
import Derived.Test.YtbejolbknimmmaaDoorMa
import Derived.Sort.CutIn
set_option linter.all false
namespace Go.Proofs.YtbejolbknimmmaaDoor
open Go Go.RowKit
set_option maxRecDepth 8000
set_option linter.all false

/-- From place q on the bytes stand. -/
def lowTo (f : Nat → UInt8) (q p : Nat) : UInt8 := if q ≤ p then f p else 0
theorem lowTo_set (f : Nat → UInt8) (q p : Nat) (z : Int) (hz : z = bN (f q)) : (if p = q then Value.int .u8 z else bF (lowTo f (q + 1)) p) = bF (lowTo f q) p := by
  subst hz
  simp only [bF, lowTo]
  by_cases h : p = q
  · subst h; simp
  · by_cases h2 : q ≤ p
    · rw [if_neg h, if_pos (by omega), if_pos h2]
    · rw [if_neg h, if_neg (by omega), if_neg h2]
theorem hiB_low (n s q : Nat) (hq : q < s) : ((n / 2 ^ (8 * (s - (q + 1))) : Nat) : Int) % 256 = bN (hiB n s q) := by
  rw [hiB, bN, UInt8.toNat_ofNat', show s - (q + 1) = s - 1 - q by omega]
  omega
theorem div_next (n s q : Nat) (hq : q < s) : ((n / 2 ^ (8 * (s - (q + 1))) : Nat) : Int) / 256 = ((n / 2 ^ (8 * (s - q)) : Nat) : Int) := by
  rw [show 8 * (s - q) = 8 * (s - (q + 1)) + 8 by omega, Nat.pow_add, ← Nat.div_div_eq_div_mul]
  omega
set_option maxHeartbeats 1000000 in
theorem RNumber_any (n : Int) (s : Nat) (hs : 1 ≤ s) (hs2 : s ≤ 8) (w : World) :
    Cv 63 #[.int .i64 n, .int .i64 (s : Int)] w (svRdN w (hiL (wN n) s)) := by
  unfold Cv
  obtain ⟨i0, hi, hz0, hz1, hz2⟩ := info_parts info5
  have hmk : ∀ W : World, (Instr.makeSlice 33 (.int .i64 (s : Int)) (.int .i64 (s : Int))).run Tryd.prog W = .ok (.slice (some ⟨W.heap.size, 0, none⟩) s s) (W.alloc (.cells (rowA s (bF fun _ => 0)) 5)) := make_bytes i0 hi hz0 hz1 hz2 s (by omega)
  have hw : IntKind.u64.wrap n = (wN n : Int) := wN_eq n
  have hwl : wN n < 18446744073709551616 := by unfold wN; omega
  obtain ⟨M, hM⟩ : ∃ M, wN n = M := ⟨_, rfl⟩
  rw [hM] at hw hwl
  rw [hM]
  clear hi hz0 hz1 hz2 hM
  go_enter Tryd.func63, Tryd.ntmps63
  go_wp2
  clear hw
  have r0 := rowIs_box w 5 s (bF fun _ => 0)
  have hB : Below w.heap.size w (w.alloc (.cells (rowA s (bF fun _ => 0)) 5)) := (Below.refl _ w).alloc (Nat.le_refl _) _
  generalize w.alloc (.cells (rowA s (bF fun _ => 0)) 5) = W0 at r0 hB ⊢
  clear hmk
  go_loopw [6, 7] (fun u i wr => ∃ q : Nat, q ≤ s ∧ u = .int .u64 ((M / 2 ^ (8 * (s - q)) : Nat) : Int) ∧ i = .int .i64 ((q : Int) - 1) ∧ wr.rowIs w.heap.size 5 s (bF (lowTo (hiB M s) q)) ∧ Below w.heap.size w wr) (fun _ i _ => (intOf i + 1).toNat)
  case atStart => exact ⟨s, Nat.le_refl _, by simp, rfl, r0.congr fun p hp => by simp only [bF, lowTo]; rw [if_neg (by omega)], hB⟩
  case round =>
    obtain ⟨q, hq, rfl, rfl, q0, qB⟩ := hrel
    clear r0 hB
    cases q with
    | succ q =>
      rw [show ((q + 1 : Nat) : Int) - 1 = (q : Int) by omega]
      have hb1 := hiB_low M s q (by omega)
      have hb2 := div_next M s q (by omega)
      have hle : M / 2 ^ (8 * (s - (q + 1))) < 18446744073709551616 := Nat.lt_of_le_of_lt (Nat.div_le_self _ _) hwl
      generalize M / 2 ^ (8 * (s - (q + 1))) = m1 at hb1 hb2 hle
      generalize hm2 : M / 2 ^ (8 * (s - q)) = m2 at hb2
      have Hb1 := Lib.hid hb1
      have Hb2 := Lib.hid hb2
      have Hm2 := Lib.hid hm2
      clear hb1 hb2 hm2
      have c0 := q0.cell (i := q) (by omega)
      have f0 := q0.frozen q
      go_wp2
      go_roundw
      case rel =>
        refine ⟨q, by omega, ?_, by go_num, (q0.set q _).congr fun p _ => lowTo_set _ q p _ ?_, qB.setCell (by simp) _⟩
        · rw [Hm2.out, ← Hb2.out]
        · exact Hb1.out
      case measure => simp [intOf]
    | zero =>
      go_wp2
      go_ret
      refine ⟨_, rfl, qB, fun L hL => ?_⟩
      have := rd_row (L := L) q0 (fun hm => by have := hL _ hm; omega) (by omega)
      have e : (List.range s).map (lowTo (hiB M s) 0) = hiL M s := List.map_congr_left fun i hi => by simp [lowTo]
      rw [e] at this
      exact this
theorem RNumber_8 (n : Int) (w : World) : Cv 63 #[.int .i64 n, .int .i64 8] w (svRdN w (hiL (wN n) 8)) := RNumber_any n 8 (by omega) (by omega) w
theorem RNumber_4 (n : Int) (w : World) : Cv 63 #[.int .i64 n, .int .i64 4] w (svRdN w (hiL (wN n) 4)) := RNumber_any n 4 (by omega) (by omega) w
theorem RNumber_8s (n : Int) (w : World) : Cv 63 #[.int .i64 n, .int .i64 8] w (svRd (hiL (wN n) 8)) := Calls.mono (RNumber_8 n w) fun _ _ ⟨v, he, hN, h⟩ => ⟨v, he, hN, h [] (by simp)⟩
end Go.Proofs.YtbejolbknimmmaaDoor
/- The reference's Text: a domain's byte, and of each part how many bytes it has, and these. -/
namespace Go.Proofs.YtbejolbknimmmaaDoor
open Go Go.RowKit
set_option maxRecDepth 8000
set_option linter.all false
theorem cnt_flat (ls : List (List UInt8)) : ((ls.flatMap cntP).flatten).length = 4 * ls.length + ls.flatten.length := by
  induction ls with
  | nil => rfl
  | cons x ls ih => simp [cntP, hiL_length] at ih ⊢; omega
theorem take_flat (ls : List (List UInt8)) (k : Nat) : (ls.take k).flatten.length ≤ ls.flatten.length := by
  have h1 : ls.flatten = (ls.take k).flatten ++ (ls.drop k).flatten := by rw [← List.flatten_append, List.take_append_drop]
  have h2 := congrArg List.length h1
  rw [List.length_append] at h2
  omega
theorem tk (ls : List (List UInt8)) (k : Nat) (x : List UInt8) (h : ls[k]? = some x) : ls.take (k + 1) = ls.take k ++ [x] := by rw [List.take_add_one, h]; rfl
set_option maxHeartbeats 1000000 in
theorem RText_any (n : Int) (pv : Value) (ls : List (List UInt8)) (w : World) (hp : Parts w pv ls) (hlen : ls.length ≤ 1000) (htot : ls.flatten.length ≤ 100000) :
    Cv 52 #[.int .i64 n, pv] w (svOwn w (ofL n ls)) := by
  unfold Cv
  obtain ⟨ps, ⟨A, cap, rfl, hpc, hpm, hA, hR⟩, rfl⟩ := hp
  obtain ⟨ls, hls⟩ : ∃ ls, ls = ps.map (·.2) := ⟨_, rfl⟩
  rw [← hls] at hlen htot ⊢
  unfold maxLen at hpm
  obtain ⟨m, hm⟩ : ∃ m, m = ps.length := ⟨_, rfl⟩
  have hml : m = ls.length := by rw [hls, hm]; simp
  rw [← hm] at hpc
  have HA := Lib.hid (show 0 < m → ∃ b o, A = some ⟨b, o, none⟩ ∧ ∀ i x, ps[i]? = some x → w.cell? ⟨b, o + i, none⟩ = some x.1 from fun h => by
    obtain ⟨b, o, h1, _, h2⟩ := hA (by omega)
    exact ⟨b, o, h1, h2⟩)
  have HR := Lib.hid hR
  have Hls := Lib.hid hls
  have Hml := Lib.hid hml
  have hm1 : m ≤ 1000 := by omega
  have hdb := dB_eq n
  rw [← hm]
  have Hm := Lib.hid hm
  clear hA hR hls hml hm
  go_enter Tryd.func52, Tryd.ntmps52
  go_wp2
  clear hdb
  have o0 := own_one (dB n) w
  have hB : Below w.heap.size w (w.alloc (.cells #[.int .u8 (bN (dB n))] 5)) := (Below.refl _ w).alloc (Nat.le_refl _) _
  generalize w.alloc (.cells #[.int .u8 (bN (dB n))] 5) = W0 at o0 hB ⊢
  go_loopw [5, 6] (fun v i wr => ∃ k : Nat, k ≤ m ∧ i = .int .i64 k ∧ (svOwn w (ofL n (ls.take k))).pred v wr ∧ Below w.heap.size w wr) (fun _ i _ => m - (intOf i).toNat)
  case atStart => exact ⟨0, by omega, rfl, by simpa [ofL] using o0, hB⟩
  case round =>
    obtain ⟨k, hk, rfl, hown, qB⟩ := hrel
    clear o0 hB
    by_cases hlt : k < m
    · obtain ⟨b, o, rfl, hcells⟩ := HA.out (by omega)
      have hkl : k < ps.length := by rw [← Hm.out]; exact hlt
      have hx : ps[k]? = some ps[k] := List.getElem?_eq_getElem hkl
      generalize ps[k] = x at hx
      have hlt0 : b < w.heap.size := World.block_lt_of_cell? _ _ (hcells k x hx)
      have hcell := (qB.cell (p := ⟨b, o + k, none⟩) hlt0).trans (hcells k x hx)
      have hrd0 := HR.out x (List.mem_of_getElem? hx)
      have hlx : ls[k]? = some x.2 := by rw [Hls.out, List.getElem?_map, hx]; rfl
      have htk := tk ls k x.2 hlx
      have hle1 := take_flat ls (k + 1)
      have hle2 : (ls.take (k + 1)).length ≤ 1000 := by rw [List.length_take]; omega
      have hol := ofL_length n (ls.take (k + 1))
      have Hof : Hid (ofL n (ls.take (k + 1)) = ofL n (ls.take k) ++ hiL x.2.length 4 ++ x.2) := Lib.hid (by
        rw [htk]; simp [ofL, cntP])
      rw [Hof.out, List.length_append, List.length_append, hiL_length] at hol
      obtain ⟨A', c', hv', hlc, hcm, hr0⟩ := hrd0
      have Hrd : Hid (RdV w [] (.slice A' x.2.length c') x.2) := Lib.hid ⟨A', c', rfl, hlc, hcm, hr0⟩
      rw [hv'] at hcell
      have hwn : wN (x.2.length : Int) = x.2.length := wN_nat _ (by unfold maxLen at hcm; omega)
      have hxl : (ofL n (ls.take k)).length + 4 + x.2.length ≤ 900000 := by omega
      clear hol hkl hx hcells hr0 hv' hlx htk hle1 hle2 hlc hcm
      have hnum := RNumber_4 (x.2.length : Int) wr
      rw [hwn] at hnum
      have Hnum := Lib.hid hnum
      clear hnum hwn
      go_upto_region 5 with fail
      refine wp_region_lit ?_
      iterate 6 (refine wpList_plain rfl (fun K hK => ?_); go_simp; refine hK _ _ ?_; clear hK K)
      refine wpList_plain rfl (fun K hK => ?_)
      refine opr_cv Hnum.out rfl Tryd.func63 (by kernel_rfl) (by kernel_rfl) (by simp only [List.map_toArray, List.map_cons, List.map_nil]; rfl) ?_
      intro v22 wa hNa h22
      refine hK _ _ ?_
      clear hK K Hnum
      have owna := (svOwn w (ofL n (ls.take k))).stable _ _ _ hown hNa
      have hBa := qB.trans (hNa.out.mono qB.size)
      obtain ⟨v23, wb, hrun, ownb, _, hBb⟩ := run_append_two owna hBa.size (h22 [] (by simp)) (by rw [hiL_length]; omega) 33
      have hBB := hBa.trans hBb
      have hcellb := (hBb.cell (p := ⟨b, o + k, none⟩) hlt0).trans ((hNa.out.cell (p := ⟨b, o + k, none⟩) (Nat.lt_of_lt_of_le hlt0 qB.size)).trans hcell)
      clear owna hBa h22 hown hcell hNa hBb
      refine wpList_plain rfl (fun K hK => ?_)
      refine opr_append rfl rfl rfl hrun (hK _ _ ?_)
      clear hrun hK K
      refine wpList_plain rfl (fun K hK => ?_)
      refine opr_move (.inr rfl) (hK _ _ ?_)
      clear hK K
      refine wpList_nil ?_
      go_simp
      obtain ⟨v29, wc, hrun, ownc, _, hBc⟩ := run_append_two ownb hBB.size (Hrd.out.keep (KeepBut.below hBB)) (by rw [List.length_append, hiL_length]; omega) 33
      have Hown := Lib.hid ownc
      have HBc := Lib.hid (hBB.trans hBc)
      clear ownb ownc hBc
      go_upto_region 6 with fail
      refine wp_region_lit ?_
      iterate 5 (refine wpList_plain rfl (fun K hK => ?_); go_simp; refine hK _ _ ?_; clear hK K)
      refine wpList_plain rfl (fun K hK => ?_)
      refine opr_append rfl rfl rfl hrun (hK _ _ ?_)
      clear hrun hK K
      refine wpList_plain rfl (fun K hK => ?_)
      refine opr_move (.inr rfl) (hK _ _ ?_)
      clear hK K
      refine wpList_nil ?_
      go_simp
      go_wp2
      go_roundw
      case rel => exact ⟨k + 1, by omega, by go_num, by rw [Hof.out]; exact Hown.out, HBc.out⟩
      case measure => simp [intOf]; omega
    · obtain rfl : k = m := by omega
      go_wp2
      go_ret
      refine ⟨_, rfl, qB, ?_⟩
      rw [Hml.out, List.take_length] at hown
      exact hown
theorem RText_cv (n : Int) (pv : Value) (ls : List (List UInt8)) (w : World) (hp : Parts w pv ls) (hlen : ls.length ≤ 1000) (htot : ls.flatten.length ≤ 100000) :
    Cv 52 #[.int .i64 n, pv] w (svRd (ofL n ls)) :=
  Calls.mono (RText_any n pv ls w hp hlen htot) fun _ _ ⟨v, he, hN, h⟩ => ⟨v, he, hN, rdV_own h rfl (by simp)⟩
end Go.Proofs.YtbejolbknimmmaaDoor
/- What log.end's calls do: behind, stored. -/
namespace Go.Proofs.YtbejolbknimmmaaDoor
open Go Go.RowKit
set_option maxRecDepth 8000
set_option linter.all false
set_option maxHeartbeats 1000000 in
theorem Behind_cv {nx : (Nat → UInt8) → List UInt8 → Nat → UInt8} (hX : LogH nx) (v : Value) (l : List UInt8) (p c : Int) (d : Nat → UInt8) (w : World) (hT : Tables w) (hl : RdV w [] v l) (hn : l.length ≤ 900000) (hp : 0 ≤ p ∧ p ≤ 1000000) (hc : 0 ≤ c ∧ c ≤ 1000000) : Cv 36 #[.agg (rowA 34 (enF p c d)), v] w (svEn (p + esz (l.length : Int)) (c + 1) (nx d l)) := by
  unfold Cv
  have Hl := Lib.hid hn
  have hb := esz_bounds (l.length : Int)
  have HW1 : Hid (wrap64 (p + esz (l.length : Int)) = p + esz (l.length : Int)) := Lib.hid (by unfold wrap64; omega)
  have HW2 : Hid (wrap64 (c + 1) = c + 1) := Lib.hid (by unfold wrap64; omega)
  clear hb hp hc hn
  have r0 : ((w.alloc (.cells (rowA 34 (enF p c d)) 62)).alloc (.cells (rowA 34 (enF 0 0 fun _ => 0)) 62)).rowIs w.heap.size 62 34 (enF p c d) := (rowIs_box w 62 34 (enF p c d)).alloc _
  have r1 := rowIs_box (w.alloc (.cells (rowA 34 (enF p c d)) 62)) 62 34 (enF 0 0 fun _ => 0)
  rw [World.size_alloc] at r1
  have hN : NewT w ((w.alloc (.cells (rowA 34 (enF p c d)) 62)).alloc (.cells (rowA 34 (enF 0 0 fun _ => 0)) 62)) := NewT.trans _ _ _ (NewT.alloc _ _) (NewT.alloc _ _)
  go_enter Tryd.func36, Tryd.ntmps36
  go_upto_region 1 with fail
  change Code.wp _ _ _ _ ((w.alloc (.cells (rowA 34 (enF p c d)) 62)).alloc (.cells (rowA 34 (enF 0 0 fun _ => 0)) 62))
  generalize (w.alloc (.cells (rowA 34 (enF p c d)) 62)).alloc (.cells (rowA 34 (enF 0 0 fun _ => 0)) 62) = W0 at r0 r1 hN ⊢
  have R0 := Lib.hid r0
  have R1 := Lib.hid r1
  have HT := Lib.hid (hN.tables hT)
  have HL := Lib.hid (hN.rd hl)
  have HN := Lib.hid hN
  clear r0 r1 hT hl hN
  refine wp_region_rely (NewT) [SV.eq (.pointer (some ⟨w.heap.size, 0, none⟩)), SV.eq (.int .i64 (p)), svRd (l), SV.eq (.int .i64 ((List.length (l) : Int))), SV.eq (.int .i64 (esz ((List.length (l) : Int)))), SV.eq (.int .i64 (p + esz (List.length l : Int))), SV.eq (.pointer (some ⟨w.heap.size, 1, none⟩)), SV.eq (.int .i64 (c)), SV.eq (.int .i64 (c + 1)), SV.eq (.pointer (some ⟨w.heap.size, 2, none⟩)), svRd (digL (d)), svRd (l), svParts [digL (d), l], SV.eq (.agg (rowA 32 (bF (nx (d) (l))))), SV.eq ((.agg (rowA 34 (enF (p + esz (List.length l : Int)) (c + 1) (nx d l)))))] [([(2, none)], none), ([(5, some 0)], none), ([(1, none)], none), ([(7, some 2)], none), ([(8, some 3)], none), ([(6, some 1), (9, some 4)], none), ([(2, none)], none), ([(11, some 6)], none), ([(12, some 7)], none), ([(2, none)], none), ([(14, some 9)], none), ([(1, none)], none), ([(15, some 10), (16, some 11)], none), ([(17, some 12)], none), ([(10, some 5), (13, some 8), (18, some 13)], none)] 20 rfl (by kernel_rfl) rfl (by kernel_rfl) (by kernel_rfl) rfl NewT.trans (NewT.drew _) (Nat.le_of_ble_eq_true rfl) ⟨?_, ?_, ?_, ?_, ?_, ?_, ?_, ?_, ?_, ?_, ?_, ?_, ?_, ?_, ?_, trivial⟩ ?_
  · exact fun a wx hT hF K hK => rely_wp rfl (opr_fldE0 rfl hF.1 (hK _ _ (NewT.refl _) rfl))
  · exact fun a wx hT hF K hK => rely_wp rfl (opr_ldI (hT.row R0.out) (by decide) rfl rfl hF.1 (hK _ _ (NewT.refl _) rfl))
  · intro a wx hT hF K hK
    obtain ⟨f1, _⟩ := hF
    have f1 : a.tmps.getD 1 undef = v := f1
    refine rely_wp rfl ?_
    exact opr_move (.inl rfl) (hK _ _ (NewT.refl _) (by rw [eval_tmp, f1]; exact hT.rd HL.out))
  · exact fun a wx hT hF K hK => rely_wp rfl (opr_len_rd rfl hF.1 (hK _ _ (NewT.refl _) rfl))
  · exact fun a wx hT hF K hK => rely_wp rfl (opr_cv (Size_cv ((List.length (l) : Int)) wx) rfl Tryd.func43 (by kernel_rfl) (by kernel_rfl) (evs1 hF.1) hK)
  · exact fun a wx hT hF K hK => rely_wp rfl (opr_add (r := p + esz (List.length l : Int)) Tryd.underlying3 (HW1.out) rfl hF.1 hF.2.1 (hK _ _ (NewT.refl _) rfl))
  · exact fun a wx hT hF K hK => rely_wp rfl (opr_fldE1 rfl hF.1 (hK _ _ (NewT.refl _) rfl))
  · exact fun a wx hT hF K hK => rely_wp rfl (opr_ldI (hT.row R0.out) (by decide) rfl rfl hF.1 (hK _ _ (NewT.refl _) rfl))
  · exact fun a wx hT hF K hK => rely_wp rfl (opr_add (r := c + 1) Tryd.underlying3 (HW2.out) rfl hF.1 rfl (hK _ _ (NewT.refl _) rfl))
  · exact fun a wx hT hF K hK => rely_wp rfl (opr_fldE2 rfl hF.1 (hK _ _ (NewT.refl _) rfl))
  · exact fun a wx hT hF K hK => rely_wp rfl (opr_sliceH rfl hF.1 (hK _ _ (NewT.refl _) (rd_rowH (hT.row R0.out) (by decide) (fun j hj => enF_h _ _ _ _ hj))))
  · intro a wx hT hF K hK
    obtain ⟨f1, _⟩ := hF
    have f1 : a.tmps.getD 1 undef = v := f1
    refine rely_wp rfl ?_
    exact opr_move (.inl rfl) (hK _ _ (NewT.refl _) (by rw [eval_tmp, f1]; exact hT.rd HL.out))
  · exact fun a wx hT hF K hK => rely_wp rfl (opr_bs2 rfl hF.1 hF.2.1 hK)
  · exact fun a wx hT hF K hK => rely_wp rfl (opr_cv (Of_cv 5 _ [digL (d), l] (nx (d) (l)) wx (hT.tables HT.out) hF.1 (by simp) (by simp [digL_length]; have := Hl.out; omega) (hX.of _ _)) rfl Tryd.func48 (by kernel_rfl) (by kernel_rfl) (evs2 rfl rfl) hK)
  · exact fun a wx hT hF K hK => rely_wp rfl (opr_bldE rfl hF.1 hF.2.1 hF.2.2.1 (hK _ _ (NewT.refl _) rfl))
  · intro wx hT
    iterate 2 (intro u h; obtain rfl := Eq.symm (h (by simp)); clear h)
    intro _ _
    iterate 7 (intro u h; obtain rfl := Eq.symm (h (by simp)); clear h)
    iterate 3 (intro _ _)
    iterate 2 (intro u h; obtain rfl := Eq.symm (h (by simp)); clear h)
    refine relyEnd_nil rfl ?_
    simp only [Act.put, List.setIfInBounds_toArray, List.set_cons_zero, List.set_cons_succ]
    refine opr_putm (F := enF (p + esz (List.length l : Int)) (c + 1) (nx d l)) rfl rfl rfl (hT.row R1.out) (by decide) infoE' (fun _ => enF_one _ _ _ _) (fun i hi => by rw [if_pos (by omega), Nat.sub_zero]) ?_
    intro w9 hR9 r9
    go_simp
    go_wp2
    exact bodyPost_ret (results_agg rfl _ rfl r9 Tryd.underlying62 rfl infoE') rfl ⟨_, rfl, NewT.rt (NewT.trans _ _ _ HN.out hT) hR9 (Nat.le_succ _), rfl⟩
/-- 'h[:8]' of a hash within a row. -/
theorem opr_sliceH8 {a : Act} {w : World} {o : Oper} {K : Act → World → Prop} {Q : Exit → Act → World → Prop} {x : Operand} {g o0 : Nat} (ho : o.op = .slice 48 x none (some (.const (.int .i64 8))) none) (hx : a.eval x = .pointer (some ⟨g, o0, none⟩)) (h : K (a.put o.dst (.slice (some ⟨g, o0, none⟩) 8 32)) w) : o.wp Tryd.prog a w K Q := by
  obtain ⟨dst, op, type, pos, after, guard⟩ := o
  simp only at ho
  subst ho
  refine opr_val (s := Instr.sliceAt 48 (a.eval x) none (some (.int .i64 8)) none) rfl ?_ h
  rw [hx]
  have hsz : (sizeOf 5).run Tryd.prog w = .ok 1 w := by
    have hs := info5s
    cases hq : Tryd.prog.info? 5 with
    | none => simp [hq] at hs
    | some i => simp [hq] at hs; simp [sizeOf, typeInfo, hq, hs]
  simp [Instr.sliceAt, run_underlying Tryd.underlying48, Instr.sureAddr, Instr.sliceBounds, Instr.sliceBound, asIntOf, hsz, Addr.add_zero']
theorem rd_rowH8 {w : World} {g : Nat} {t' n o0 : Nat} {F : Nat → Value} {d : Nat → UInt8} (hr : w.rowIs g t' n F) (hn : o0 + 8 ≤ n) (hv : ∀ j, j < 8 → F (o0 + j) = bF d j) : RdV w [] (.slice (some ⟨g, o0, none⟩) 8 32) (mkL d) := by
  have e : mkL d = (List.range 8).map d := by simp [mkL, digL, ← List.map_take, List.take_range]
  rw [e]
  refine ⟨some ⟨g, o0, none⟩, 32, by simp, by simp, by unfold maxLen; omega, fun _ => ⟨g, o0, rfl, by simp, fun i hi => ?_⟩⟩
  have hi' : i < 8 := by simpa using hi
  rw [hr.cell (by omega), hv i hi', bF_at]
  simp [bAt, hi']
set_option maxHeartbeats 1000000 in
theorem Stored_cv (v : Value) (l zz : List UInt8) (p c : Int) (d : Nat → UInt8) (w : World) (hl : RdV w [] v l) (hn : l.length ≤ 900000) (hz : numL l.length ++ l ++ mkL d = zz) : Cv 37 #[.agg (rowA 34 (enF p c d)), v] w (svRd zz) := by
  unfold Cv
  have HZ := Lib.hid hz
  clear hz
  have Hl := Lib.hid hn
  have r0 := rowIs_box w 62 34 (enF p c d)
  have hN := NewT.alloc w (.cells (rowA 34 (enF p c d)) 62)
  clear hn
  go_enter Tryd.func37, Tryd.ntmps37
  go_upto_region 1 with fail
  change Code.wp _ _ _ _ (w.alloc (.cells (rowA 34 (enF p c d)) 62))
  generalize (w.alloc (.cells (rowA 34 (enF p c d)) 62)) = W0 at r0 hN ⊢
  have R0 := Lib.hid r0
  have HL := Lib.hid (hN.rd hl)
  have HN := Lib.hid hN
  clear r0 hl hN
  refine wp_region_rely (NewT) [svRd (l), svRd (numL (List.length l) ++ l), SV.eq (.pointer (some ⟨w.heap.size, 2, none⟩)), svRd (mkL (d)), svParts [numL (List.length l) ++ l, mkL (d)], svRd (zz)] [([(1, none)], none), ([(5, some 0)], none), ([(2, none)], none), ([(7, some 2)], none), ([(6, some 1), (8, some 3)], none), ([(9, some 4)], none)] 11 rfl (by kernel_rfl) rfl (by kernel_rfl) (by kernel_rfl) rfl NewT.trans (NewT.drew _) (Nat.le_of_ble_eq_true rfl) ⟨?_, ?_, ?_, ?_, ?_, ?_, trivial⟩ ?_
  · intro a wx hT hF K hK
    obtain ⟨f1, _⟩ := hF
    have f1 : a.tmps.getD 1 undef = v := f1
    refine rely_wp rfl ?_
    exact opr_move (.inl rfl) (hK _ _ (NewT.refl _) (by rw [eval_tmp, f1]; exact hT.rd HL.out))
  · exact fun a wx hT hF K hK => rely_wp rfl (opr_cv (WBytes_rd _ l _ wx hF.1 Hl.out rfl) rfl Tryd.func50 (by kernel_rfl) (by kernel_rfl) (evs1 rfl) hK)
  · exact fun a wx hT hF K hK => rely_wp rfl (opr_fldE2 rfl hF.1 (hK _ _ (NewT.refl _) rfl))
  · exact fun a wx hT hF K hK => rely_wp rfl (opr_sliceH8 rfl hF.1 (hK _ _ (NewT.refl _) (rd_rowH8 (hT.row R0.out) (by decide) (fun j hj => enF_h _ _ _ _ (by omega)))))
  · exact fun a wx hT hF K hK => rely_wp rfl (opr_bs2 rfl hF.1 hF.2.1 hK)
  · exact fun a wx hT hF K hK => rely_wp rfl (opr_cv (All_rd _ _ zz wx hF.1 (by rw [← HZ.out]; simp) (by rw [← HZ.out, List.length_append, List.length_append, numL_length, mkL_length]; have := Hl.out; have := sz_le (List.length l); omega)) rfl Tryd.func49 (by kernel_rfl) (by kernel_rfl) (evs1 rfl) hK)
  · intro wx hT
    iterate 2 (intro _ _)
    intro u h; obtain rfl := Eq.symm (h (by simp)); clear h
    iterate 2 (intro _ _)
    intro u10 h; have g10 := h (by simp); clear h; replace g10 := show (svRd (zz)).pred u10 wx from g10
    refine relyEnd_nil rfl ?_
    simp only [Act.put, List.setIfInBounds_toArray, List.set_cons_zero, List.set_cons_succ]
    refine opr_move (.inr rfl) ?_
    go_simp
    go_wp2
    go_ret
    exact ⟨_, rfl, NewT.trans _ _ _ HN.out hT, g10⟩
end Go.Proofs.YtbejolbknimmmaaDoor
/- The entry that stands next, on lists: what a reader of 2,010 bytes finds is the only one that may be. -/
namespace Go.Proofs.YtbejolbknimmmaaDoor
open Go Go.RowKit
set_option maxRecDepth 8000
set_option linter.all false
theorem outB_put3 (l r : List UInt8) (most : Int) (hl : l.length ≤ 1000000) (hm : (l.length : Int) ≤ most) : outB (numL l.length ++ l ++ r) most = (l, r, 0) := by
  have hg := goN_put l.length (by omega) (l ++ r)
  rw [← List.append_assoc] at hg
  have hd : (numL l.length ++ l ++ r).drop (sz l.length) = l ++ r := by
    rw [List.append_assoc, ← numL_length l.length]; simp
  have hB : goB (numL l.length ++ l ++ r) most = (l, sz l.length + l.length, 0) := by
    unfold goB
    rw [hg]
    simp only
    rw [if_neg (by simp), if_neg (by omega), if_neg (by rw [List.length_append, List.length_append, numL_length]; omega), hd, List.take_left]
  unfold outB
  rw [hB, if_pos rfl]
  simp only
  rw [show sz l.length + l.length = (numL l.length ++ l).length by rw [List.length_append, numL_length], List.drop_left]
theorem outB_len (l : List UInt8) (most : Nat) : (outB l (most : Int)).1.length ≤ most := by
  unfold outB
  split
  case isFalse h => simp
  case isTrue h =>
    unfold goB
    split
    · simp
    · split
      · simp
      · split
        · simp
        · rename_i h1 h2 h3
          simp only [List.length_take]
          omega
theorem opr_min {P : Program} {a : Act} {w : World} {o : Oper} {K : Act → World → Prop} {Q : Exit → Act → World → Prop} {x y : Operand} {ts : Array TypeId} {m n k : Int} (ho : o.op = .call { callee := .builtin .min, args := #[x, y], argTypes := ts }) (hx : a.eval x = .int .i64 m) (hy : a.eval y = .int .i64 n) (hk : (if n < m then n else m) = k) (h : K (a.put o.dst (.int .i64 k)) w) : o.wp P a w K Q := by
  obtain ⟨dst, op, type, pos, after, guard⟩ := o
  simp only at ho
  subst ho hk
  refine opr_val (s := Builtin.min_ ts type #[a.eval x, a.eval y]) (v := .int .i64 (if n < m then n else m)) (by
    show (do let d ← resolve a.eval { callee := .builtin .min, args := #[x, y], argTypes := ts } type; invoke d.target d.args) = _
    simp only [resolve, invoke, pure_bind, BigFrame.builtin_min, List.map_toArray, List.map_cons, List.map_nil]) ?_ h
  rw [hx, hy, run_min_int2]
/-- 'b[:k]' whose run is known. -/
theorem opr_toB {a : Act} {w : World} {o : Oper} {K : Act → World → Prop} {Q : Exit → Act → World → Prop} {x y : Operand} {A : Option Addr} {n c : Nat} {k : Int} {u : Value} (ho : o.op = .slice 33 x none (some y) none) (hx : a.eval x = .slice A n c) (hy : a.eval y = .int .i64 k)
    (hr : (Instr.slice 33 (.slice A n c) none (some (.int .i64 k)) none).run Tryd.prog w = .ok u w) (h : K (a.put o.dst u) w) : o.wp Tryd.prog a w K Q := by
  obtain ⟨dst, op, type, pos, after, guard⟩ := o
  simp only at ho
  subst ho
  exact opr_val (s := Instr.sliceAt 33 (a.eval x) none (some (a.eval y)) none) (by simp [execOp]) (by rw [hx, hy]; simp only [Instr.sliceAt, Sem.run_bind, run_underlying Tryd.underlying33, Result.andThen_ok]; exact hr) h
/-- What is read where an entry may stand. -/
def candL (r : List UInt8) : List UInt8 := (outB (r.take 2010) 2000).1
theorem cand_len (r : List UInt8) : (candL r).length ≤ 2000 := outB_len _ 2000
theorem cand_ok {r : List UInt8} (h : candL r ≠ []) : okE (candL r) := ⟨List.length_pos_iff.2 h, cand_len r⟩
section
variable {nx : (Nat → UInt8) → List UInt8 → Nat → UInt8} {d : Nat → UInt8} {r e : List UInt8}
theorem cand_of (he : okE e) (h : entL nx mkL d e <+: r) : candL r = e := by
  obtain ⟨s, rfl⟩ := h
  have hs := sz_small he.2
  have h2 := he.2
  unfold candL entL
  have e1 : (numL e.length ++ e ++ mkL (nx d e) ++ s).take 2010 = numL e.length ++ e ++ (mkL (nx d e) ++ s).take (2010 - (numL e.length ++ e).length) := by
    rw [List.append_assoc (numL e.length ++ e), List.take_append, List.take_of_length_le (by rw [List.length_append, numL_length]; omega)]
  rw [e1, outB_put3 _ _ _ (by omega) (by omega)]
theorem next_none (h : candL r = [] ∨ ¬ entL nx mkL d (candL r) <+: r) : ∀ e, okE e → ¬ entL nx mkL d e <+: r := fun e he hp => by
  have := cand_of he hp
  rcases h with h | h
  · rw [h] at this; subst this; have := he.1; simp at this
  · rw [this] at h; exact h hp
end
end Go.Proofs.YtbejolbknimmmaaDoor
/- bytes.Equal and bytes.HasPrefix: texts compared. -/
namespace Go.Proofs.YtbejolbknimmmaaDoor
open Go Go.RowKit
set_option maxRecDepth 8000
set_option linter.all false
theorem conv_rdQ {w : World} {L : List Nat} {v : Value} {l : List UInt8} (h : RdV w L v l) : (convert 33 9 v).run Tryd.prog w = .ok (.string ⟨l.toArray⟩) w := by
  obtain ⟨A, cap, rfl, h1, h2, h3⟩ := h
  by_cases h0 : 0 < l.length
  · obtain ⟨b, o, rfl, _, hc⟩ := h3 h0
    have := run_convert_bytes_arg (P := Tryd.prog) w 33 5 Tryd.underlying33 Tryd.underlying5 b o l.length cap (l.map bN) (by simp) (fun i hi => by
      rw [hc i hi]
      simp [bAt, hi]) 9 Tryd.underlying9
    rw [this]
    have e : strOfNums (l.map bN) = ⟨l.toArray⟩ := by
      unfold strOfNums
      congr 2
      rw [List.map_map]
      conv => rhs; rw [← List.map_id l]
      exact List.map_congr_left fun b _ => by simp [bN]
    rw [e]
  · have : l = [] := List.eq_nil_of_length_eq_zero (by omega)
    subst this
    simp only [List.length_nil]
    simp [convert, run_underlying Tryd.underlying33, run_underlying Tryd.underlying9, run_underlying Tryd.underlying5, Conv.bytesToString]
    cases A <;> simp [go_sem] <;> rfl
theorem strEqQ (l m : List UInt8) : (l == m) = decide (l = m) := by
  by_cases h : l = m
  · subst h; simp
  · simp [h]
set_option maxHeartbeats 400000 in
theorem BEqualQ (v1 v2 : Value) (l m : List UInt8) (w : World) (h1 : RdV w [] v1 l) (h2 : RdV w [] v2 m) : Cv 67 #[v1, v2] w (.eq (.bool (decide (l = m)))) := by
  unfold Cv
  have k1 := conv_rdQ h1
  have k2 := conv_rdQ h2
  clear h1 h2
  rw [← strEqQ]
  go_enter Tryd.func67, Tryd.ntmps67
  go_wp2
  go_ret
  exact ⟨_, rfl, NewT.refl _, rfl⟩
/-- The first k bytes. -/
theorem RdV.take {w : World} {L : List Nat} {A : Option Addr} {n c : Nat} {l : List UInt8} (h : RdV w L (.slice A n c) l) {k : Nat} (hk : k ≤ l.length) : RdV w L (.slice A k c) (l.take k) := by
  obtain ⟨A', cap, hv, h1, h2, h3⟩ := h
  cases hv
  have hl : (l.take k).length = k := by rw [List.length_take]; omega
  refine ⟨A, c, by rw [hl], by omega, h2, fun h0 => ?_⟩
  obtain ⟨b, o, hA, hb, hc⟩ := h3 (by omega)
  refine ⟨b, o, hA, hb, fun i hi => ?_⟩
  rw [hl] at hi
  rw [hc i (by omega)]
  simp [bAt, List.getElem?_take, hi]
/-- All but the first k bytes. -/
theorem slice_fromRd {w : World} {L : List Nat} {A : Option Addr} {n c : Nat} {l : List UInt8} (h : RdV w L (.slice A n c) l) {k : Nat} (hk : k ≤ n) : ∃ A' c', (∀ W, (Instr.slice 33 (.slice A n c) (some (.int .i64 (k : Int))) none none).run Tryd.prog W = .ok (.slice A' (n - k) c') W) ∧ RdV w L (.slice A' (n - k) c') (l.drop k) := by
  cases A with
  | none =>
    obtain ⟨A', cap, hv, h1, h2, h3⟩ := h
    injection hv with e1 e2 e3
    subst e1
    subst e2
    subst e3
    have h0 : l = [] := by
      cases l with
      | nil => rfl
      | cons b l => obtain ⟨_, _, h, _⟩ := h3 (by simp); cases h
    subst h0
    obtain rfl : k = 0 := by simpa using hk
    have hsz : ∀ W, (sizeOf 5).run Tryd.prog W = .ok 1 W := fun W => by
      obtain ⟨i0, hi, _, hz1, _⟩ := info_parts info5
      simp [sizeOf, typeInfo, hi, hz1]
    refine ⟨none, c, fun W => ?_, ⟨none, c, rfl, h1, h2, fun h => by simp at h⟩⟩
    simp [Instr.slice, run_underlying Tryd.underlying33, Instr.sliceBounds, Instr.sliceBound, asIntOf, hsz]
  | some a =>
    obtain ⟨b, o, p⟩ := a
    by_cases h0 : 0 < l.length
    · obtain ⟨A', cap, hv, h1, h2, h3⟩ := id h
      injection hv with e1 e2 e3
      subst e1
      obtain ⟨b', o', hA, _⟩ := h3 h0
      injection hA with hA
      injection hA with e4 e5 e6
      subst e4 e5 e6
      exact ⟨_, _, fun W => slice_from (P := Tryd.prog) 33 5 Tryd.underlying33 info5s ⟨b, o, none⟩ n c k hk W, rd_from h hk⟩
    · obtain ⟨A', cap, hv, h1, h2, h3⟩ := id h
      injection hv with e1 e2 e3
      subst e2
      have : l = [] := List.eq_nil_of_length_eq_zero (by omega)
      subst this
      obtain rfl : k = 0 := by simpa using hk
      have hr := fun W => slice_from (P := Tryd.prog) 33 5 Tryd.underlying33 info5s ⟨b, o, p⟩ 0 c 0 (Nat.le_refl _) W
      refine ⟨_, _, hr, _, _, rfl, by simp, by subst e3; omega, fun h => by simp at h⟩
set_option maxHeartbeats 400000 in
theorem HasPrefix_cv (v1 v2 : Value) (l m : List UInt8) (b : Bool) (w : World) (h1 : RdV w [] v1 l) (h2 : RdV w [] v2 m) (hb : b = true ↔ m <+: l) : Cv 56 #[v1, v2] w (.eq (.bool b)) := by
  unfold Cv
  by_cases hl : m.length ≤ l.length
  · have H1 := Lib.hid h1
    have H2 := Lib.hid h2
    obtain ⟨A1, c1, rfl, k1, _⟩ := h1
    obtain ⟨A2, c2, rfl, _⟩ := h2
    have hs := slice_to A1 l.length c1 m.length (by omega)
    have HT := Lib.hid (H1.out.take hl)
    have HB : Hid (decide (l.take m.length = m) = b) := Lib.hid (by
      rw [Bool.eq_iff_iff, hb, decide_eq_true_iff, List.prefix_iff_eq_take]
      exact ⟨fun h => h.symm, fun h => h.symm⟩)
    have hi : (m.length : Int) ≤ (l.length : Int) := by omega
    clear hb k1 hl
    go_enter Tryd.func56, Tryd.ntmps56
    go_wp2_with (go_at_call 67; refine (BEqualQ _ _ (l.take m.length) m w HT.out H2.out).eq.mono ?_; rintro _ w1 ⟨rfl, hN⟩; rw [HB.out])
    go_ret
    exact ⟨_, rfl, hN, rfl⟩
  · have e : b = false := by
      cases b
      · rfl
      · exact absurd (hb.1 rfl).length_le hl
    subst e
    clear hb
    obtain ⟨A1, c1, rfl, _⟩ := h1
    obtain ⟨A2, c2, rfl, _⟩ := h2
    have hi : ¬ (m.length : Int) ≤ (l.length : Int) := by omega
    clear hl
    go_enter Tryd.func56, Tryd.ntmps56
    go_wp2
    go_ret
    exact ⟨_, rfl, NewT.refl _, rfl⟩
end Go.Proofs.YtbejolbknimmmaaDoor
/- The entry that stands next: what log.next returns. -/
namespace Go.Proofs.YtbejolbknimmmaaDoor
open Go Go.RowKit
set_option maxRecDepth 8000
set_option linter.all false
set_option maxHeartbeats 4000000 in
theorem Next_any {nx : (Nat → UInt8) → List UInt8 → Nat → UInt8} (hX : LogH nx) (v : Value) (S x : List UInt8) (p c : Nat) (d : Nat → UInt8) (b : Bool) (w : World) (hT : Tables w) (hl : RdV w [] v S) (hS : S.length ≤ 900000) (hp : p ≤ S.length) (hc : c ≤ 900000) (hx : candL (S.drop p) = x) (hb : b = true ↔ entL nx mkL d x <+: S.drop p) : Calls Tryd.prog 45 #[v, .agg (rowA 34 (enF (p : Int) (c : Int) d))] w fun ev w' => ∃ u t, ev = .returned (.tuple #[u, .agg (rowA 34 t)]) ∧ NewT w w' ∧
    ((x = [] ∨ b = false) ∧ u = .slice none 0 0 ∧ t = enF (p : Int) (c : Int) d ∨ x ≠ [] ∧ b = true ∧ t = enF ((p : Int) + esz (x.length : Int)) ((c : Int) + 1) (nx d x) ∧ (svRdN w x).pred u w') := by
  have HT := Lib.hid hT
  have HX := Lib.hid hx
  have HB := Lib.hid hb
  have HL := Lib.hid hl
  have HS := Lib.hid (show S.length ≤ 900000 ∧ p ≤ S.length ∧ c ≤ 900000 from ⟨hS, hp, hc⟩)
  have Hx : Hid (x.length ≤ 2000) := Lib.hid (by rw [← hx]; exact cand_len _)
  obtain ⟨A, cap, rfl, hcap, _⟩ := hl
  obtain ⟨m, hm⟩ : ∃ m, S.length = m := ⟨_, rfl⟩
  rw [hm] at hcap ⊢
  obtain ⟨A1, cap1, hs1, hR1⟩ := slice_fromRd HL.out (k := p) (by omega)
  rw [hm] at hs1 hR1
  clear hT hx hb hS hp hc
  have HR := Lib.hid hR1
  have hlr : (S.drop p).length = m - p := by rw [List.length_drop, hm]
  obtain ⟨k, hk⟩ : ∃ k, min (m - p) 2010 = k := ⟨_, rfl⟩
  obtain ⟨q, hq⟩ : ∃ q, m - p = q := ⟨_, rfl⟩
  rw [hq] at hs1 HR hk hlr
  have HK : Hid (k ≤ q ∧ k ≤ 2010 ∧ (S.drop p).length = q ∧ (S.drop p).take 2010 = (S.drop p).take k) := Lib.hid ⟨by omega, by omega, hlr, by
    by_cases h : q ≤ 2010
    · rw [show k = q by omega, List.take_of_length_le (by omega), List.take_of_length_le (by omega)]
    · rw [show k = 2010 by omega]⟩
  have hs2 := slice_to A1 q cap1 k (by obtain ⟨_, _, hv, h1, _⟩ := HR.out; injection hv with _ e2 e3; subst e3; omega)
  have hkm : (if (2010 : Int) < (q : Int) then (2010 : Int) else (q : Int)) = (k : Int) := by split <;> omega
  have HKM := Lib.hid hkm
  clear hkm hk hlr hq hR1
  have r0 : ((w.alloc (.cells (rowA 34 (enF (p : Int) (c : Int) d)) 62)).alloc (.cells (rowA 34 (enF 0 0 fun _ => 0)) 62)).rowIs w.heap.size 62 34 (enF (p : Int) (c : Int) d) := (rowIs_box w 62 34 (enF (p : Int) (c : Int) d)).alloc _
  have r1 := rowIs_box (w.alloc (.cells (rowA 34 (enF (p : Int) (c : Int) d)) 62)) 62 34 (enF 0 0 fun _ => 0)
  rw [World.size_alloc] at r1
  have hN : NewT w ((w.alloc (.cells (rowA 34 (enF (p : Int) (c : Int) d)) 62)).alloc (.cells (rowA 34 (enF 0 0 fun _ => 0)) 62)) := NewT.trans _ _ _ (NewT.alloc _ _) (NewT.alloc _ _)
  go_enter Tryd.func45, Tryd.ntmps45
  go_upto_region 1 with fail
  change Code.wp _ _ _ _ ((w.alloc (.cells (rowA 34 (enF (p : Int) (c : Int) d)) 62)).alloc (.cells (rowA 34 (enF 0 0 fun _ => 0)) 62))
  generalize (w.alloc (.cells (rowA 34 (enF (p : Int) (c : Int) d)) 62)).alloc (.cells (rowA 34 (enF 0 0 fun _ => 0)) 62) = W0 at r0 r1 hN ⊢
  have c0 := r0.cell (i := 0) (by omega)
  rw [show enF (p : Int) (c : Int) d 0 = .int .i64 (p : Int) from rfl] at c0
  have R0 := Lib.hid r0
  have R1 := Lib.hid r1
  have HN := Lib.hid hN
  clear r0 r1 hN
  go_upto_region 2 with fail
  refine wp_region_lit ?_
  refine wpList_plain rfl (fun K hK => ?_)
  refine opr_move (.inl rfl) (hK _ _ ?_)
  clear hK K
  refine wpList_plain rfl (fun K hK => ?_)
  refine opr_move (.inl rfl) (hK _ _ ?_)
  clear hK K
  refine wpList_plain rfl (fun K hK => ?_)
  refine opr_len rfl Tryd.underlying33 rfl (hK _ _ ?_)
  clear hK K
  refine wpList_plain rfl (fun K hK => ?_)
  refine opr_cv (Size_cv 2000 _) rfl Tryd.func43 (by kernel_rfl) (by kernel_rfl) (by simp only [List.map_toArray, List.map_cons, List.map_nil, eval_const]) ?_
  intro v1 w1 hN1 e1
  obtain rfl : v1 = .int .i64 (esz 2000) := e1
  rw [esz_2000]
  refine hK _ _ ?_
  have HN1 := Lib.hid hN1
  clear hN1 hK K
  simp only [Act.put, List.setIfInBounds_toArray, List.set_cons_zero, List.set_cons_succ]
  refine wpList_plain rfl (fun K hK => ?_)
  refine opr_min rfl rfl rfl HKM.out (hK _ _ ?_)
  clear hK K
  simp only [Act.put, List.setIfInBounds_toArray, List.set_cons_zero, List.set_cons_succ]
  refine wpList_plain rfl (fun K hK => ?_)
  refine opr_toB rfl rfl rfl (hs2 _) (hK _ _ ?_)
  clear hK K
  simp only [Act.put, List.setIfInBounds_toArray, List.set_cons_zero, List.set_cons_succ]
  refine wpList_plain rfl (fun K hK => ?_)
  refine opr_call rfl Tryd.func54 (by kernel_rfl) (by kernel_rfl) (by simp only [List.map_toArray, List.map_cons, List.map_nil, eval_tmp]; rfl) ((Read_any _ ((S.drop p).take k) _ ((NewT.trans _ _ _ HN.out HN1.out).rd (HR.out.take (by have := HK.out; omega))) (by rw [List.length_take]; have := HK.out; omega)).mono ?_)
  rintro _ w2 ⟨R, rfl, hN2, hR2, hrd⟩
  refine ⟨_, rfl, hK _ _ ?_⟩
  have HRD := Lib.hid hrd
  have HN2 := Lib.hid (NewT.trans _ _ _ HN1.out hN2)
  have HRC := Lib.hid (Nat.le_trans HN1.out.out.size hR2)
  clear hrd hN2 hR2 hK K
  simp only [Act.put, List.setIfInBounds_toArray, List.set_cons_zero, List.set_cons_succ]
  refine wpList_plain rfl (fun K hK => ?_)
  refine opr_call rfl Tryd.func55 (by kernel_rfl) (by kernel_rfl) (by simp only [List.map_toArray, List.map_cons, List.map_nil, eval_tmp, eval_const]; rfl) ((RBytes_good R 2000 _ w2 HRD.out (by rw [List.length_take]; have := HK.out; omega)).mono ?_)
  rintro _ w3 ⟨u, rfl, hu, hT3, hq3⟩
  refine ⟨_, rfl, hK _ _ ?_⟩
  rw [← HK.out.2.2.2, show (outB ((S.drop p).take 2010) 2000).1 = candL (S.drop p) from rfl, HX.out] at hu
  have HU := Lib.hid hu
  have HN3 := Lib.hid (NewT.rt HN2.out hT3 HRC.out)
  obtain ⟨A3, c3, hu3⟩ := rdV_form (hu [] (by simp))
  subst hu3
  have HW2 := Lib.hid (Nat.lt_of_lt_of_le R1.out.lt HN2.out.out.size)
  clear hT3 hu hK K HN2 HRD HRC hq3
  simp only [Act.put, List.setIfInBounds_toArray, List.set_cons_zero, List.set_cons_succ]
  refine wpList_plain rfl (fun K hK => ?_)
  refine opr_move (.inr rfl) (hK _ _ ?_)
  clear hK K
  refine wpList_end rfl ?_
  simp only [Act.put, List.setIfInBounds_toArray, List.set_cons_zero, List.set_cons_succ]
  go_simp
  by_cases h0 : x = []
  · have e0 : ((x.length : Int) == 0) = true := by rw [h0]; rfl
    have H0 := Lib.hid h0
    clear h0
    go_upto_region 4 with fail
    refine wp_region_rely (NewT) [SV.eq (.agg (rowA 34 (enF ((p : Int)) ((c : Int)) (d)))), SV.eq (.slice none 0 0)] [([(3, none)], none), ([], none)] 37 rfl (by kernel_rfl) rfl (by kernel_rfl) (by kernel_rfl) rfl NewT.trans (NewT.drew _) (Nat.le_of_ble_eq_true rfl) ⟨?_, ?_, trivial⟩ ?_
    · exact fun a wx hT hF K hK => rely_wp rfl ((fun hr => opr_ldE hr (Nat.le_refl _) (fun _ _ => rfl)) (hT.row (HN3.out.row R0.out)) rfl hF.1 (hK _ _ (NewT.refl _) rfl))
    · exact fun a wx hT hF K hK => rely_wp rfl (opr_move (.inr rfl) (hK _ _ (NewT.refl _) rfl))
    · intro wx hT
      iterate 2 (intro u h; obtain rfl := Eq.symm (h (by simp)); clear h)
      refine relyEnd_nil rfl ?_
      simp only [Act.put, List.setIfInBounds_toArray, List.set_cons_zero, List.set_cons_succ]
      refine opr_putm (F := enF (p : Int) (c : Int) d) rfl rfl rfl (hT.row (HN3.out.row R1.out)) (by decide) infoE' (fun _ => enF_one _ _ _ _) (fun i hi => by rw [if_pos (by omega), Nat.sub_zero]) ?_
      intro w9 hR9 r9
      go_simp
      go_wp2
      refine bodyPost_ret (results_tr rfl rfl rfl r9 Tryd.underlying62 rfl infoE') rfl ⟨_, _, rfl, NewT.rt (NewT.trans _ _ _ HN.out (NewT.trans _ _ _ HN3.out hT)) hR9 (Nat.le_succ _), .inl ⟨.inl H0.out, rfl, rfl⟩⟩
  · have e0 : ((x.length : Int) == 0) = false := by
      have := List.length_pos_iff.2 h0
      exact beq_eq_false_iff_ne.2 (by omega)
    have H0 := Lib.hid h0
    clear h0
    go_upto_region 5 with fail
    refine wp_region_lit ?_
    refine wpList_plain rfl (fun K hK => ?_)
    refine opr_ldE (HN3.out.row R0.out) (Nat.le_refl _) (fun _ _ => rfl) rfl rfl (hK _ _ ?_)
    clear hK K
    refine wpList_plain rfl (fun K hK => ?_)
    refine opr_move (.inl rfl) (hK _ _ ?_)
    clear hK K
    simp only [Act.put, List.setIfInBounds_toArray, List.set_cons_zero, List.set_cons_succ]
    refine wpList_plain rfl (fun K hK => ?_)
    refine opr_cv (Behind_cv hX _ x (p : Int) (c : Int) d _ ((NewT.trans _ _ _ HN.out HN3.out).tables HT.out) (HU.out [] (by simp)) (by have := Hx.out; omega) (by have := HS.out; omega) (by have := HS.out; omega)) rfl Tryd.func36 (by kernel_rfl) (by kernel_rfl) (by simp only [List.map_toArray, List.map_cons, List.map_nil, eval_tmp]; rfl) ?_
    intro v27 w4 hN4 e27
    obtain rfl : v27 = .agg (rowA 34 (enF ((p : Int) + esz (x.length : Int)) ((c : Int) + 1) (nx d x))) := e27
    refine hK _ _ ?_
    clear hK K
    simp only [Act.put, List.setIfInBounds_toArray, List.set_cons_zero, List.set_cons_succ]
    refine wpList_new (n := 34) rfl rfl rfl rfl rfl rfl (by simp) run_alloc_en infoE' (fun _ => enF_one _ _ _ _) rfl ?_
    intro w5 hn5 r8
    refine wpList_end rfl ?_
    simp only [Act.put, List.setIfInBounds_toArray, List.set_cons_zero, List.set_cons_succ]
    obtain ⟨g8, hg8⟩ : ∃ g8, w4.heap.size = g8 := ⟨_, rfl⟩
    rw [hg8] at r8 ⊢
    have R8 := Lib.hid r8
    have HN5 := Lib.hid (NewT.trans _ _ _ HN3.out (NewT.trans _ _ _ hN4 hn5))
    have HU5 := Lib.hid (show (svRdN w2 x).pred (.slice A3 x.length c3) w5 from fun L hL => (NewT.trans _ _ _ hN4 hn5).rd (HU.out L hL))
    clear hN4 hn5 r8 hg8
    go_simp
    obtain ⟨zz, HZ⟩ := hid_ex (numL x.length ++ x ++ mkL (nx d x))
    have HQ : Hid (b = true ↔ zz <+: S.drop p) := Lib.hid (by rw [← HZ.out]; exact HB.out)
    rcases Bool.eq_false_or_eq_true b with hb | hb
    · have HBT := Lib.hid hb
      have HQ1 : Hid (true = true ↔ zz <+: S.drop p) := Lib.hid (by have := HQ.out; rwa [hb] at this)
      clear hb
      go_upto_region 6 with fail
      refine wp_region_steps0 NewT [svRd (List.drop p S), SV.eq (.agg (rowA 34 (enF (((p : Int) + esz (List.length x : Int))) (((c : Int) + 1)) (nx d x)))), svRd (x), svRd (zz), SV.eq (.bool true), SV.eq (.bool false)] [([(6, none)], none), ([(8, none)], none), ([(7, none)], none), ([(29, some 1), (30, some 2)], none), ([(28, some 0), (31, some 3)], none), ([(32, some 4)], none)] 37 6 rfl rfl (by kernel_rfl) NewT.trans (NewT.refl _) (Nat.le_of_ble_eq_true rfl) ⟨?_, ?_, ?_, ?_, ?_, ?_, trivial⟩ ?_
      · intro a wx hT hF K hK
        obtain ⟨f6, _⟩ := hF
        have f6 : a.tmps.getD 6 undef = (.slice A1 q cap1) := f6
        refine rely_wp rfl ?_
        exact opr_move (.inl rfl) (hK _ _ (NewT.refl _) (by rw [eval_tmp, f6]; exact (NewT.trans _ _ _ HN.out (NewT.trans _ _ _ HN5.out hT)).rd HR.out))
      · exact fun a wx hT hF K hK => rely_wp rfl ((fun hr => opr_ldE hr (Nat.le_refl _) (fun _ _ => rfl)) (hT.row R8.out) rfl hF.1 (hK _ _ (NewT.refl _) rfl))
      · intro a wx hT hF K hK
        obtain ⟨f7, _⟩ := hF
        have f7 : a.tmps.getD 7 undef = (.slice A3 x.length c3) := f7
        refine rely_wp rfl ?_
        exact opr_move (.inl rfl) (hK _ _ (NewT.refl _) (by rw [eval_tmp, f7]; exact hT.rd (HU5.out [] (by simp))))
      · exact fun a wx hT hF K hK => rely_wp rfl (opr_cv (Stored_cv _ x zz ((p : Int) + esz (List.length x : Int)) ((c : Int) + 1) (nx d x) wx hF.2.1 (by have := Hx.out; omega) HZ.out) rfl Tryd.func37 (by kernel_rfl) (by kernel_rfl) (evs2 hF.1 rfl) hK)
      · exact fun a wx hT hF K hK => rely_wp rfl (opr_cv (HasPrefix_cv _ _ (List.drop p S) zz true wx hF.1 hF.2.1 HQ1.out) rfl Tryd.func56 (by kernel_rfl) (by kernel_rfl) (evs2 rfl rfl) hK)
      · exact fun a wx hT hF K hK => rely_wp rfl (opr_not rfl hF.1 (hK _ _ (NewT.refl _) rfl))
      · intro w6 k6
        intro _ _
        intro u h; obtain rfl := Eq.symm (h (by simp)); clear h
        iterate 2 (intro _ _)
        iterate 2 (intro u h; obtain rfl := Eq.symm (h (by simp)); clear h)
        refine relyEnd_nil rfl ?_
        refine wpList_end rfl ?_
        simp only [Act.put, List.setIfInBounds_toArray, List.set_cons_zero, List.set_cons_succ]
        go_simp
        go_upto_region 8 with fail
        refine wp_region_rely (NewT) [SV.eq ((.slice A3 x.length c3)), SV.eq (.agg (rowA 34 (enF (((p : Int) + esz (List.length x : Int))) (((c : Int) + 1)) (nx d x)))), SV.eq ((.slice A3 x.length c3))] [([(7, none)], none), ([(8, none)], none), ([(35, some 0)], none)] 37 rfl (by kernel_rfl) rfl (by kernel_rfl) (by kernel_rfl) rfl NewT.trans (NewT.drew _) (Nat.le_of_ble_eq_true rfl) ⟨?_, ?_, ?_, trivial⟩ ?_
        · exact fun a wx hT hF K hK => rely_wp rfl (opr_move (.inl rfl) (hK _ _ (NewT.refl _) hF.1))
        · exact fun a wx hT hF K hK => rely_wp rfl ((fun hr => opr_ldE hr (Nat.le_refl _) (fun _ _ => rfl)) (hT.row (k6.row R8.out)) rfl hF.1 (hK _ _ (NewT.refl _) rfl))
        · exact fun a wx hT hF K hK => rely_wp rfl (opr_move (.inr rfl) (hK _ _ (NewT.refl _) hF.1))
        · intro wx hT
          iterate 3 (intro u h; obtain rfl := Eq.symm (h (by simp)); clear h)
          refine relyEnd_nil rfl ?_
          simp only [Act.put, List.setIfInBounds_toArray, List.set_cons_zero, List.set_cons_succ]
          refine opr_putm (F := enF ((p : Int) + esz (List.length x : Int)) ((c : Int) + 1) (nx d x)) rfl rfl rfl (hT.row (k6.row (HN5.out.row R1.out))) (by decide) infoE' (fun _ => enF_one _ _ _ _) (fun i hi => by rw [if_pos (by omega), Nat.sub_zero]) ?_
          intro w9 hR9 r9
          go_simp
          go_wp2
          refine bodyPost_ret (results_tr rfl rfl rfl r9 Tryd.underlying62 rfl infoE') rfl ⟨_, _, rfl, NewT.rt (NewT.trans _ _ _ HN.out (NewT.trans _ _ _ HN5.out (NewT.trans _ _ _ k6 hT))) hR9 (Nat.le_succ _), .inr ⟨H0.out, HBT.out, rfl, fun L hL => ?_⟩⟩
          have h1 : RdV w5 ((w.heap.size + 1) :: L) (.slice A3 x.length c3) x := HU5.out _ (fun k hk => by have := HW2.out; rcases List.mem_cons.1 hk with rfl | hk; omega; have := hL k hk; omega)
          exact ((hT.rd (k6.rd h1)).keep (hR9.keep.more (by simp))).less (fun k hk => by simp [hk])
    · have HBT := Lib.hid hb
      have HQ1 : Hid (false = true ↔ zz <+: S.drop p) := Lib.hid (by have := HQ.out; rwa [hb] at this)
      clear hb
      go_upto_region 6 with fail
      refine wp_region_steps0 NewT [svRd (List.drop p S), SV.eq (.agg (rowA 34 (enF (((p : Int) + esz (List.length x : Int))) (((c : Int) + 1)) (nx d x)))), svRd (x), svRd (zz), SV.eq (.bool false), SV.eq (.bool true)] [([(6, none)], none), ([(8, none)], none), ([(7, none)], none), ([(29, some 1), (30, some 2)], none), ([(28, some 0), (31, some 3)], none), ([(32, some 4)], none)] 37 6 rfl rfl (by kernel_rfl) NewT.trans (NewT.refl _) (Nat.le_of_ble_eq_true rfl) ⟨?_, ?_, ?_, ?_, ?_, ?_, trivial⟩ ?_
      · intro a wx hT hF K hK
        obtain ⟨f6, _⟩ := hF
        have f6 : a.tmps.getD 6 undef = (.slice A1 q cap1) := f6
        refine rely_wp rfl ?_
        exact opr_move (.inl rfl) (hK _ _ (NewT.refl _) (by rw [eval_tmp, f6]; exact (NewT.trans _ _ _ HN.out (NewT.trans _ _ _ HN5.out hT)).rd HR.out))
      · exact fun a wx hT hF K hK => rely_wp rfl ((fun hr => opr_ldE hr (Nat.le_refl _) (fun _ _ => rfl)) (hT.row R8.out) rfl hF.1 (hK _ _ (NewT.refl _) rfl))
      · intro a wx hT hF K hK
        obtain ⟨f7, _⟩ := hF
        have f7 : a.tmps.getD 7 undef = (.slice A3 x.length c3) := f7
        refine rely_wp rfl ?_
        exact opr_move (.inl rfl) (hK _ _ (NewT.refl _) (by rw [eval_tmp, f7]; exact hT.rd (HU5.out [] (by simp))))
      · exact fun a wx hT hF K hK => rely_wp rfl (opr_cv (Stored_cv _ x zz ((p : Int) + esz (List.length x : Int)) ((c : Int) + 1) (nx d x) wx hF.2.1 (by have := Hx.out; omega) HZ.out) rfl Tryd.func37 (by kernel_rfl) (by kernel_rfl) (evs2 hF.1 rfl) hK)
      · exact fun a wx hT hF K hK => rely_wp rfl (opr_cv (HasPrefix_cv _ _ (List.drop p S) zz false wx hF.1 hF.2.1 HQ1.out) rfl Tryd.func56 (by kernel_rfl) (by kernel_rfl) (evs2 rfl rfl) hK)
      · exact fun a wx hT hF K hK => rely_wp rfl (opr_not rfl hF.1 (hK _ _ (NewT.refl _) rfl))
      · intro w6 k6
        intro _ _
        intro u h; obtain rfl := Eq.symm (h (by simp)); clear h
        iterate 2 (intro _ _)
        iterate 2 (intro u h; obtain rfl := Eq.symm (h (by simp)); clear h)
        refine relyEnd_nil rfl ?_
        refine wpList_end rfl ?_
        simp only [Act.put, List.setIfInBounds_toArray, List.set_cons_zero, List.set_cons_succ]
        go_simp
        go_upto_region 7 with fail
        refine wp_region_rely (NewT) [SV.eq (.agg (rowA 34 (enF ((p : Int)) ((c : Int)) (d)))), SV.eq (.slice none 0 0)] [([(3, none)], none), ([], none)] 37 rfl (by kernel_rfl) rfl (by kernel_rfl) (by kernel_rfl) rfl NewT.trans (NewT.drew _) (Nat.le_of_ble_eq_true rfl) ⟨?_, ?_, trivial⟩ ?_
        · exact fun a wx hT hF K hK => rely_wp rfl ((fun hr => opr_ldE hr (Nat.le_refl _) (fun _ _ => rfl)) (hT.row (k6.row (HN5.out.row R0.out))) rfl hF.1 (hK _ _ (NewT.refl _) rfl))
        · exact fun a wx hT hF K hK => rely_wp rfl (opr_move (.inr rfl) (hK _ _ (NewT.refl _) rfl))
        · intro wx hT
          iterate 2 (intro u h; obtain rfl := Eq.symm (h (by simp)); clear h)
          refine relyEnd_nil rfl ?_
          simp only [Act.put, List.setIfInBounds_toArray, List.set_cons_zero, List.set_cons_succ]
          refine opr_putm (F := enF (p : Int) (c : Int) d) rfl rfl rfl (hT.row (k6.row (HN5.out.row R1.out))) (by decide) infoE' (fun _ => enF_one _ _ _ _) (fun i hi => by rw [if_pos (by omega), Nat.sub_zero]) ?_
          intro w9 hR9 r9
          go_simp
          go_wp2
          refine bodyPost_ret (results_tr rfl rfl rfl r9 Tryd.underlying62 rfl infoE') rfl ⟨_, _, rfl, NewT.rt (NewT.trans _ _ _ HN.out (NewT.trans _ _ _ HN5.out (NewT.trans _ _ _ k6 hT))) hR9 (Nat.le_succ _), .inl ⟨.inr HBT.out, rfl, rfl⟩⟩
end Go.Proofs.YtbejolbknimmmaaDoor
/- A region in the text's order, within a round of a range over a function: each operation gone through once. No program is named here. -/
namespace Go.Proofs.YtbejolbknimmmaaDoor
open Go
set_option maxRecDepth 8000
set_option linter.all false

theorem rowsIn_w {n : Nat} {P : Program} {row : String} {args : Array Value} {w : World} {R : Value → World → Prop} (h : Rows P row args w R) : RowsIn Fence.wide n P row args w R := fun c cs _ => let ⟨v, w', r, s⟩ := h c cs; ⟨v, w', r, stepsIn_wide.2 s⟩
theorem wpIn_of_wp {P : Program} {o : Oper} {a : Act} {w : World} {K : Act → World → Prop} {Q : Exit → Act → World → Prop} {l₀ nn : Nat} (hnd : ∀ c, o.op ≠ .defer c) (h : o.wp P a w K Q) : o.wpIn (Fence.wide.inRound l₀) nn P a w K Q := by
  refine ⟨fun _ _ => trivial, ?_⟩
  rw [Oper.semAt_eq _ _ _ hnd]
  unfold Oper.wp at h
  generalize (execOp a.eval o).run P w = r at *
  cases r with
  | ok x w' =>
    cases x <;> simp only [Oper.upon] at h <;> simp only [Oper.uponIn]
    case enter f args => exact ⟨fun hd => by simp [Fence.inRound, Fence.wide] at hd, CallsIn.inRound l₀ (callsIn_wide.2 h)⟩
    case row r args => exact ⟨fun hd => by simp [Fence.inRound, Fence.wide] at hd, rowsIn_w h⟩
    all_goals exact h
  | halt x w' =>
    cases x <;> simp only [Oper.upon] at h <;> simp only [Oper.uponIn]
    exact h
section
variable {P : Program} {ops : Array Oper} {Q : Exit → Act → World → Prop} {T : World → World → Prop} {V : List (SV T)} {J : Nat → World → Prop} {a0 : Act} {w0 : World} {n m : Nat} {D : Deps} {init tail : List Oper} {l₀ nn : Nat}
theorem seq_opI (hnd : noDefer ops = true) (hn : a0.tmps.size = n) (ht : ∀ a b c : World, T a b → T b c → T a c) {i : Nat} {o : Oper} {dp : List (Tmp × Option Nat)} {g : Option (Tmp × Bool)} {a : Act} {w : World}
    (him : i < m) (ho : ops[i]? = some o) (h1 : seqOne ops n m i o dp g = true) (hstep : seqStep P Q T V J a0 w0 i o dp g (V.getD i SV.any)) (inv : SeqInv ops T V J a0 w0 i a w) :
    wpOpIn (Fence.wide.inRound l₀) nn P ops Q i (fun a' w' => SeqInv ops T V J a0 w0 (i + 1) a' w') a w := by
  simp only [seqOne, Bool.and_eq_true] at h1
  obtain ⟨⟨hdst, hdp⟩, hg⟩ := h1
  have hfacts : relyFacts V a0 a w dp := by
    clear hstep
    induction dp with
    | nil => trivial
    | cons x r ih2 =>
      simp only [List.all_cons, Bool.and_eq_true] at hdp
      obtain ⟨hx, hr⟩ := hdp
      obtain ⟨d, j⟩ := x
      cases j with
      | some j =>
        simp only [Bool.and_eq_true, beq_iff_eq, decide_eq_true_eq] at hx
        exact ⟨inv.new j d hx.2 hx.1, ih2 hr⟩
      | none =>
        refine ⟨inv.old d fun j hj => ?_, ih2 hr⟩
        simpa using List.all_eq_true.1 hx j (List.mem_range.2 hj)
  have hguard : Region.wanted o (yielded ops a.tmps) = relyGuard g a := by
    unfold Region.wanted
    cases hgo : o.guard with
    | none =>
      rw [hgo] at hg
      cases g with
      | none => rfl
      | some x => cases hg
    | some kb =>
      obtain ⟨k, b⟩ := kb
      rw [hgo] at hg
      cases g with
      | none => cases hg
      | some x =>
        obtain ⟨d, b'⟩ := x
        simp only [Bool.and_eq_true, beq_iff_eq, decide_eq_true_eq] at hg
        obtain ⟨⟨rfl, hd⟩, hlt⟩ := hg
        have hlt' : d < a.tmps.size := by rw [inv.slots, hn]; exact hlt
        have hd' : (ops[k]?).bind (·.dst) = some d := hd
        simp only [yielded, hd', Option.bind_some, relyGuard, Array.getD_eq_getD_getElem?, Array.getElem?_eq_getElem hlt', Option.getD_some]
        cases a.tmps[d] <;> simp
        all_goals (rename_i x; cases x <;> cases b <;> rfl)
  have next : ∀ v w', T w w' → J (i + 1) w' → (V.getD i SV.any).pred v w' → SeqInv ops T V J a0 w0 (i + 1) (a.put o.dst v) w' := fun v w' hT hJ hv => by
    refine ⟨ht _ _ _ inv.now hT, hJ, by cases o.dst <;> simp [Act.put, inv.slots], by cases o.dst <;> simp [Act.put, inv.defers], fun j d hji hj => ?_, fun d hno => ?_⟩
    · by_cases hij : i = j
      · subst hij
        have hd : o.dst = some d := by simpa [relyDst, ho] using hj
        rw [hd] at hdst
        simp only [Bool.and_eq_true, decide_eq_true_eq] at hdst
        have hlt : d < a.tmps.size := by rw [inv.slots, hn]; exact hdst.1
        rw [hd]
        simpa [Act.put, hlt] using hv
      · have h3 := (V.getD j SV.any).stable _ _ _ (inv.new j d (by omega) hj) hT
        cases hod : o.dst with
        | none => exact h3
        | some d0 =>
          rw [hod] at hdst
          simp only [Bool.and_eq_true, decide_eq_true_eq] at hdst
          have h4 := List.all_eq_true.1 hdst.2 j (List.mem_range.2 (by omega))
          simp only [Bool.or_eq_true, decide_eq_true_eq, bne_iff_ne, ne_eq] at h4
          have hne : d0 ≠ d := fun e => by
            subst e
            rcases h4 with h4 | h4
            · exact hij h4.symm
            · exact h4 hj
          simpa [Act.put, Array.getElem?_setIfInBounds_ne hne] using h3
    · have hni : o.dst ≠ some d := fun hd => hno i (by omega) (by simp [relyDst, ho, hd])
      have hold := inv.old d fun j hj => hno j (by omega)
      cases hod : o.dst with
      | none => exact hold
      | some d0 =>
        have hne : d0 ≠ d := fun e => hni (by rw [hod, e])
        simpa [Act.put, Array.getElem?_setIfInBounds_ne hne] using hold
  have hs := hstep a w inv.now hfacts inv.at_ _ next
  unfold wpOpIn
  simp only [ho, hguard]
  split
  · rename_i hw; rw [if_pos hw] at hs; exact wpIn_of_wp (noDefer_at hnd ho) hs
  · rename_i hw; rw [if_neg hw] at hs; exact ⟨fun _ _ => trivial, hs⟩
theorem wpOpsIn_tail : ∀ (t : List Oper) (k : Nat) (a : Act) (w : World), (∀ i : Nat, ops[k + i]? = t[i]?) → wpListIn (Fence.wide.inRound l₀) nn P ops Q t a w → wpOpsIn (Fence.wide.inRound l₀) nn P ops Q (List.range' k t.length) a w
  | [], k, a, w, _, h => by simpa [wpOpsIn, wpListIn] using h
  | o :: t, k, a, w, hk, h => by
    have hi : ops[k]? = some o := by simpa using hk 0
    rw [List.length_cons, List.range'_succ, wpOpsIn_cons]
    refine wpOpIn_mono (fun a' w' h' => wpOpsIn_tail t (k + 1) a' w' (fun i => by have := hk (i + 1); rw [show k + 1 + i = k + (i + 1) by omega]; simpa using this) h') ?_
    unfold wpOpIn
    simp only [hi]
    simpa only [wpListIn] using h
theorem wpOpsIn_seq (hnd : noDefer ops = true) (hsplit : ops.toList = init ++ tail) (hn : a0.tmps.size = n) (hB : seqB ops n init.length 0 init D = true) (ht : ∀ a b c : World, T a b → T b c → T a c)
    (hl : init.length ≤ V.length) (hA : seqAll P Q T V J a0 w0 0 init D V) (hE : ∀ w, T w0 w → J init.length w → relyEnd (fun _ a w => wpListIn (Fence.wide.inRound l₀) nn P ops Q tail a w) T init V a0 w) :
    ∀ (f k : Nat) (a : Act) (w : World), k + f = init.length → SeqInv ops T V J a0 w0 k a w → wpOpsIn (Fence.wide.inRound l₀) nn P ops Q (List.range' k (f + tail.length)) a w := by
  obtain ⟨hsz, hpre, htl⟩ := split_at hsplit
  intro f
  induction f with
  | zero =>
    intro k a w hk inv
    obtain rfl : k = init.length := by omega
    rw [Nat.zero_add]
    refine wpOpsIn_tail tail init.length a w htl ?_
    refine relyEnd_of (Q := fun _ a w => wpListIn (Fence.wide.inRound l₀) nn P ops Q tail a w) init V a0 inv.slots.symm inv.defers.symm hl (fun d hnd => ?_) (fun k o d hk hd => ?_) (hE w inv.now inv.at_)
    · refine (inv.old d fun j hj hjd => ?_).symm
      have hj2 := hpre j init[j] (List.getElem?_eq_getElem hj)
      simp [relyDst, hj2] at hjd
      exact hnd init[j] (List.getElem_mem hj) hjd
    · exact inv.new k d (List.getElem?_eq_some_iff.1 hk).1 (by simp [relyDst, hpre k o hk, hd])
  | succ f ih =>
    intro k a w hk inv
    rw [show f + 1 + tail.length = (f + tail.length) + 1 by omega, List.range'_succ, wpOpsIn_cons]
    have hklt : k < init.length := by omega
    have hio : init[k]? = some init[k] := List.getElem?_eq_getElem hklt
    obtain ⟨dp, g, hD, h1⟩ := seqB_at init D 0 k _ hB hio
    have hstep := seqAll_at _ _ _ 0 k _ dp g hA hio hD
    rw [Nat.zero_add] at h1 hstep
    exact wpOpIn_mono (fun a' w' inv' => ih (k + 1) a' w' (by omega) inv') (seq_opI hnd hn ht hklt (hpre k _ hio) h1 hstep inv)
/-- **A region in the text's order; the operations from place m on are left as they stand.** -/
theorem wpIn_region_steps {id : Nat} (T : World → World → Prop) (J : Nat → World → Prop) (V : List (SV T)) (D : Deps) (n m : Nat) (hnd : noDefer ops = true) (hn : a0.tmps.size = n) (hlen : (ops.toList.take m).length = m) (hB : seqB ops n m 0 (ops.toList.take m) D = true)
    (ht : ∀ a b c : World, T a b → T b c → T a c) (hd : T w0 w0) (hJ : J 0 w0) (hl : m ≤ V.length)
    (hA : seqAll P Q T V J a0 w0 0 (ops.toList.take m) D V) (hE : ∀ w, T w0 w → J m w → relyEnd (fun _ a w => wpListIn (Fence.wide.inRound l₀) nn P ops Q (ops.toList.drop m) a w) T (ops.toList.take m) V a0 w) : (Code.region id ops false).wpIn (Fence.wide.inRound l₀) nn P Q a0 w0 := by
  refine wpIn_region ?_
  have hs := split_at (List.take_append_drop m ops.toList).symm
  rw [List.range_eq_range', hs.1]
  exact wpOpsIn_seq hnd (List.take_append_drop m ops.toList).symm hn (by rw [hlen]; exact hB) ht (by rw [hlen]; exact hl) hA (by rw [hlen]; exact hE) _ 0 a0 w0 (by omega) ⟨hd, hJ, rfl, rfl, fun j d hj => absurd hj (by omega), fun _ _ => rfl⟩
theorem wpIn_region_steps0 {id : Nat} (T : World → World → Prop) (V : List (SV T)) (D : Deps) (n m : Nat) (hnd : noDefer ops = true) (hn : a0.tmps.size = n) (hlen : (ops.toList.take m).length = m) (hB : seqB ops n m 0 (ops.toList.take m) D = true)
    (ht : ∀ a b c : World, T a b → T b c → T a c) (hd : T w0 w0) (hl : m ≤ V.length)
    (hA : relyAll P Q T V a0 w0 (ops.toList.take m) D V) (hE : ∀ w, T w0 w → relyEnd (fun _ a w => wpListIn (Fence.wide.inRound l₀) nn P ops Q (ops.toList.drop m) a w) T (ops.toList.take m) V a0 w) : (Code.region id ops false).wpIn (Fence.wide.inRound l₀) nn P Q a0 w0 :=
  wpIn_region_steps T (fun _ _ => True) V D n m hnd hn hlen hB ht hd trivial hl (seqAll_of 0 _ _ _ hA) fun w hT _ => hE w hT
theorem wpListIn_end {a : Act} {w : World} {l : List Oper} (hl : l = []) (h : Q .normal a w) : wpListIn (Fence.wide.inRound l₀) nn P ops Q l a w := by subst hl; exact h
theorem wpListIn_wp {a : Act} {w : World} {o : Oper} {l : List Oper} (hnd : noDefer ops = true) (hm : o ∈ ops) (hg : o.guard = none) (h : ∀ K : Act → World → Prop, (∀ a w, wpListIn (Fence.wide.inRound l₀) nn P ops Q l a w → K a w) → o.wp P a w K Q) : wpListIn (Fence.wide.inRound l₀) nn P ops Q (o :: l) a w :=
  wpListIn_plain hg fun K hK => wpIn_of_wp (fun c e => by
    have := Array.all_eq_true_iff_forall_mem.1 hnd o hm
    rw [e] at this; cases this) (h K hK)
end
end Go.Proofs.YtbejolbknimmmaaDoor
/- A law of our own for a range over a function whose rounds make memory that lasts: the iterator turns one variable of its own and makes new memory; rounds may write whatever stood when the iterator went on, but for the iterator's. No program is named here. -/
namespace Go.Proofs.YtbejolbknimmmaaDoor
open Go.RowKit
set_option maxRecDepth 8000
set_option linter.all false

/-- An iterator's step: its variable (block g) and new memory alone. -/
structure ItS (g : Nat) (A B : World) : Prop where
  below : Below g A B
  keep : ∀ (k : Nat) (o : Obj), k ≠ g → A.heap[k]? = some o → B.heap[k]? = some o
theorem ItS.refl (g : Nat) (A : World) : ItS g A A := ⟨Below.refl _ _, fun _ _ _ h => h⟩
theorem ItS.trans {g : Nat} {A B C : World} (h : ItS g A B) (k : ItS g B C) : ItS g A C := ⟨h.below.trans k.below, fun i o hi ho => k.keep i o hi (h.keep i o hi ho)⟩
theorem ItS.new {g : Nat} {A B : World} (hg : g ≤ A.heap.size) (h : Below A.heap.size A B) : ItS g A B :=
  ⟨h.mono hg, fun k _ _ ho => (h.block k (Array.getElem?_eq_some_iff.1 ho).1).trans ho⟩
theorem ItS.but {g : Nat} {A B : World} (h : ItS g A B) : KeepBut [g] A B := ⟨h.below.size, fun k o hk ho _ => h.keep k o (by simpa using hk) ho⟩
theorem ItS.of {g : Nat} {A B : World} (hb : Below g A B) (h : KeepBut [g] A B) (hk : KeepsOthers A B) : ItS g A B :=
  ⟨hb, fun k o hkg ho => by
    cases hc : o.isCells with
    | true => exact h.2 k o (by simpa using hkg) ho hc
    | false => exact hk.same k o ho hc⟩
/-- What a round may write: blocks that stood when the iterator went on (in A), but for the iterator's variable and the blocks pb. -/
def KpM (pb : List Nat) (ga : Nat) (A W W' : World) : Prop := ∃ M : List Nat, (∀ k ∈ M, k < A.heap.size ∧ k ≠ ga ∧ k ∉ pb) ∧ KeepBut M W W'
theorem KpM.left {pb : List Nat} {ga : Nat} {A W V W' : World} (h : KpM pb ga A V W') (k : KeepBut [] W V) : KpM pb ga A W W' := by
  obtain ⟨M, h1, h2⟩ := h; exact ⟨M, h1, (k.more (by simp)).trans h2⟩
theorem KpM.right {pb : List Nat} {ga : Nat} {A W V W' : World} (h : KpM pb ga A W V) (k : KeepBut [] V W') : KpM pb ga A W W' := by
  obtain ⟨M, h1, h2⟩ := h; exact ⟨M, h1, h2.trans (k.more (by simp))⟩
/-- What such an iterator promises. 'G pre x A W': what it tells of x, that it hands on behind pre in the world W, having gone on in the world A. -/
def SeqK {α : Type} (P : Program) (g : Nat) (lb : Array Value) (encs : α → Array Value) (pb : List Nat) (G : List α → α → World → World → Prop) (S : List α → Prop) (w : World) : Prop :=
  ∀ (l : Nat) (J : List α → World → Prop) (W : World), Below w.heap.size w W →
    (∀ pre A B, J pre A → ItS W.heap.size A B → J pre B) →
    (∀ pre x A W1, J pre A → W.heap.size < A.heap.size → ItS W.heap.size A W1 → G pre x A W1 → YieldAt Fence.wide 0 P l (encs x) W1 fun e W' =>
      e = .returned (.bool true) ∧ J (pre ++ [x]) W' ∧ KpM pb W.heap.size A W1 W' ∧ KeepsFrom W.heap.size W1 W') →
    J [] W →
    CallsIn Fence.wide 0 P g (#[.func (.yield l) #[] #[]] ++ lb) W fun e W' => (∃ v, e = .returned v) ∧ ∃ xs, S xs ∧ J xs W'

/-- **The statement 'for x := range g { .. }' by such an iterator's promise; its variables are laid into new memory ahead of the body, and every round goes on.** -/
theorem range_law3 {P : Program} {α : Type} {g : Operand} {ps : Array Tmp} {assign body : Code} {Q : Exit → Act → World → Prop} {a : Act} {w : World} {n : Nat}
    {gf : Nat} {lb : Array Value} (hg : a.eval g = .func (.func gf) #[] lb) (eg : ∀ args w, (callFunc gf args).run P w = .ok (.enter gf args) w)
    {encs : α → Array Value} {pb : List Nat} {G : List α → α → World → World → Prop} {S : List α → Prop} {w0 : World} (hseq : SeqK P gf lb encs pb G S w0) (hb0 : Below w0.heap.size w0 w)
    (hGb : ∀ (pre : List α) (x : α) (A W W' : World), G pre x A W → KeepBut [] W W' → G pre x A W')
    (hps : ∀ x, (encs x).size = ps.size)
    (I : List α → World → Prop) (hI : ∀ pre A B, I pre A → ItS (w.heap.size + 2) A B → I pre B)
    (hIp : ∀ pre A l o o', w.heap.size ≤ l → A.heap[l]? = some o → o.isCells = false → I pre A → I pre (A.putObj l o'))
    (h0 : ∀ W1, Below w.heap.size w W1 → I [] W1) (As : α → Act → World → Prop)
    (hAs : ∀ (x : α) (a1 : Act) (W : World) (l : Nat) (o o' : Obj), w.heap.size ≤ l → W.heap[l]? = some o → o.isCells = false → As x a1 W → As x a1 (W.putObj l o'))
    (hassign : ∀ (l : Nat) (x : α) (W : World) (K : Act → World → Prop), (∀ a1 W', Below W.heap.size W W' → As x a1 W' → K a1 W') →
      assign.wpIn (Fence.wide.inRound l) 0 P (Exit.then K (fun _ _ _ => False)) { tmps := (ps.zip (encs x)).foldl (fun t (p, v) => t.setIfInBounds p v) a.tmps, defers := [] } W)
    (hbody : ∀ (l : Nat) (pre : List α) (x : α) (a1 : Act) (A W : World), w.heap.size ≤ l → w.heap.size + 2 < A.heap.size → I pre A → I pre W → KeepBut [w.heap.size + 2] A W → Below w.heap.size A W → G pre x A W → As x a1 W →
      body.wpIn (Fence.wide.inRound l) 0 P (fun e _ W' => e = .normal ∧ KeepsFrom w.heap.size W W' ∧ KpM pb (w.heap.size + 2) A W W' ∧ I (pre ++ [x]) W') a1 W)
    (hdone : ∀ (D : Nat) (xs : List α) (W : World), w.heap.size ≤ D → S xs → I xs W → W.heap[D]? = some (.deferred (some [])) → Q .normal { a with defers := { target := .collected D, args := #[] } :: a.defers } W) :
    (Code.rangeFunc g ps assign body).wpIn Fence.wide n P Q a w := by
  refine wpIn_rangeFunc ?_
  intro fn hfn
  obtain ⟨rec, hrec⟩ : ∃ rec : LoopState → Option Code → Loop, rec = fun st pe => { state := st, pending := pe, fn, tmps := a.tmps, params := ps, assign, body, defers := w.heap.size } := ⟨_, rfl⟩
  obtain ⟨W1, hW1⟩ : ∃ W1, (w.alloc (.deferred (some []))).alloc (.loop (rec .ready none)) = W1 := ⟨_, rfl⟩
  have hsz : W1.heap.size = w.heap.size + 2 := by rw [← hW1]; simp
  have hL1 : W1.heap[w.heap.size + 1]? = some (.loop (rec .ready none)) := by
    rw [← hW1]; have := World.alloc_heap_new (w.alloc (.deferred (some []))) (.loop (rec .ready none)); rwa [World.size_alloc] at this
  have hK1 : W1.heap[w.heap.size]? = some (.deferred (some [])) := by
    rw [← hW1]; exact (Below.heap_alloc _ _ _ (by simp)).trans (World.alloc_heap_new w _)
  have hbw : Below w.heap.size w W1 := by rw [← hW1]; exact ((Below.refl _ w).alloc (Nat.le_refl _) _).alloc (by simp) _
  refine ⟨w.heap.size + 1, [{ target := .collected w.heap.size, args := #[] }], W1, { target := .fn (.func gf) lb, args := #[.func (.yield (w.heap.size + 1)) #[] #[]] }, W1, gf,
    #[.func (.yield (w.heap.size + 1)) #[] #[]] ++ lb, W1, ?_, ?_, fun _ _ => trivial, ?_, fun h => by simp [Fence.wide] at h, ?_⟩
  · rw [← hW1, hrec]; exact run_enterLoop_outer _ _ _ _ _
  · simp only [resolve, hg]
    simp [go_sem]
  · simp [invoke, go_sem, eg]
  · have hcall := hseq (w.heap.size + 1)
      (fun pre W => I pre W ∧ W.heap[w.heap.size + 1]? = some (.loop (rec .ready none)) ∧ W.heap[w.heap.size]? = some (.deferred (some [])) ∧ w.heap.size + 2 ≤ W.heap.size)
      W1 (hb0.trans (hbw.mono hb0.size))
      (fun pre A B hs hB => by
        rw [hsz] at hB
        exact ⟨hI pre A B hs.1 hB, hB.keep _ _ (by omega) hs.2.1, hB.keep _ _ (by omega) hs.2.2.1, Nat.le_trans hs.2.2.2 hB.below.size⟩)
      ?_ ⟨h0 _ hbw, hL1, hK1, by omega⟩
    · have hcall' : CallsIn Fence.wide (n - 1) P gf (#[.func (.yield (w.heap.size + 1)) #[] #[]] ++ lb) W1 _ := callsIn_wide.2 (callsIn_wide.1 hcall)
      refine hcall'.mono ?_
      rintro e W2 ⟨⟨v, rfl⟩, xs, hS, hi, hl, hk, _⟩
      exact ⟨none, _, by have := run_endLoop (P := P) hl (by rw [hrec]; simp); rw [hrec] at this; exact this, hdone _ xs _ (Nat.le_refl _) hS (hIp _ _ _ _ _ (by omega) hl rfl hi) ((World.putObj_heap_other (by omega)).trans hk)⟩
    · rintro pre x A W0 ⟨hiA, hlA, hkA, hszA⟩ hszB hAW hG
      rw [hsz] at hAW hszB ⊢
      have hi : I pre W0 := hI _ _ _ hiA hAW
      have hl := hAW.keep _ _ (by omega) hlA
      have hk := hAW.keep _ _ (by omega) hkA
      have hlt : w.heap.size + 1 < W0.heap.size := (Array.getElem?_eq_some_iff.1 hl).1
      have hge : w.heap.size + 2 ≤ W0.heap.size := Nat.le_trans hszA hAW.below.size
      have hy := run_yield (P := P) (args := encs x) hl (by rw [hrec]; exact hps x)
      rw [hrec] at hy
      refine ⟨fn, _, assign, body, hy, roundIn_of_wpIn hfn (hassign _ x W0 _ ?_)⟩
      clear hy
      intro a1 W hB0 hA
      have kp0 : KeepBut [] W0 W := KeepBut.below hB0
      have kf0 : KeepsFrom (w.heap.size + 2) W0 W := (keepsOthers_below hB0).from _
      have hAW1 : ItS (w.heap.size + 2) A W := hAW.trans (ItS.new hge hB0)
      replace hi : I pre W := hI _ _ _ hiA hAW1
      replace hl := (hB0.block _ hlt).trans hl
      replace hk := (hB0.block _ (by omega)).trans hk
      replace hG := hGb _ _ _ _ _ hG kp0
      replace hlt : w.heap.size + 1 < W.heap.size := Nat.lt_of_lt_of_le hlt hB0.size
      clear hB0
      refine ⟨_, run_beginRound hl (by rw [hrec]), ?_⟩
      have hl2 : (W.putObj (w.heap.size + 1) (.loop { rec .ready none with state := .busy })).heap[w.heap.size + 1]? = some (.loop { rec .ready none with state := .busy }) := World.putObj_heap_same hlt
      have hk2 : (W.putObj (w.heap.size + 1) (.loop { rec .ready none with state := .busy })).heap[w.heap.size]? = some (.deferred (some [])) := (World.putObj_heap_other (by omega)).trans hk
      have hw2 : ∀ L, KeepBut L W (W.putObj (w.heap.size + 1) (.loop { rec .ready none with state := .busy })) := fun L => KeepBut.putObj hl rfl
      refine wpIn_mono (hbody _ pre x a1 A _ (by omega) hszB hiA (hIp _ _ _ _ _ (by omega) hl rfl hi) (hAW1.but.trans (hw2 _)) ((hAW1.below.mono (by omega)).trans (below_putObj (by omega) _)) (hGb _ _ _ _ _ hG (hw2 [])) (hAs _ _ _ _ _ _ (by omega) hl rfl hA)) ?_
      rintro e a3 W3 ⟨rfl, hk3, hkp3, hi3⟩
      have hl3 := hk3.same _ _ (by omega) hl2 rfl
      have hr : (Instr.endRound (w.heap.size + 1) none).run P W3 = .ok (.bool (none : Option Code).isNone) (W3.putObj (w.heap.size + 1) (.loop (rec .ready none))) := by
        have := run_endRound (P := P) none hl3
        rw [hrec] at this ⊢
        exact this
      have hk4 : (W3.putObj (w.heap.size + 1) (.loop (rec .ready none))).heap[w.heap.size]? = some (.deferred (some [])) := (World.putObj_heap_other (by omega)).trans (hk3.same _ _ (Nat.le_refl _) hk2 rfl)
      have hl4 : (W3.putObj (w.heap.size + 1) (.loop (rec .ready none))).heap[w.heap.size + 1]? = some (.loop (rec .ready none)) := World.putObj_heap_same (Array.getElem?_eq_some_iff.1 hl3).1
      refine ⟨_, _, hr, rfl, ⟨hIp _ _ _ _ _ (by omega) hl3 rfl hi3, hl4, hk4, ?_⟩, ((hkp3.left (hw2 [])).left kp0).right (KeepBut.putObj hl3 rfl), kf0.trans (((keepsFrom_low _ (by omega)).trans (keepsFrom_mono hk3 (by omega))).trans (keepsFrom_low _ (by omega)))⟩
      have := hk3.size
      simp at this ⊢
      have := hAW1.below.size
      omega
end Go.Proofs.YtbejolbknimmmaaDoor
/- Operations of an iterator's own body, gone through one by one. No program is named here. -/
namespace Go.Proofs.YtbejolbknimmmaaDoor
open Go Go.RowKit
set_option maxRecDepth 8000
set_option linter.all false
theorem wpIn_of_wpW {P : Program} {o : Oper} {a : Act} {w : World} {K : Act → World → Prop} {Q : Exit → Act → World → Prop} {nn : Nat} (hnd : ∀ c, o.op ≠ .defer c) (h : o.wp P a w K Q) : o.wpIn Fence.wide nn P a w K Q := by
  refine ⟨fun _ _ => trivial, ?_⟩
  rw [Oper.semAt_eq _ _ _ hnd]
  unfold Oper.wp at h
  generalize (execOp a.eval o).run P w = r at *
  cases r with
  | ok x w' =>
    cases x <;> simp only [Oper.upon] at h <;> simp only [Oper.uponIn]
    case enter f args => exact ⟨fun hd => by simp [Fence.wide] at hd, callsIn_wide.2 h⟩
    case row r args => exact ⟨fun hd => by simp [Fence.wide] at hd, rowsIn_w h⟩
    all_goals exact h
  | halt x w' =>
    cases x <;> simp only [Oper.upon] at h <;> simp only [Oper.uponIn]
    exact h
section
variable {P : Program} {ops : Array Oper} {Q : Exit → Act → World → Prop} {nn : Nat}
theorem wpListIn_wpW {a : Act} {w : World} {o : Oper} {l : List Oper} (hnd : noDefer ops = true) (hm : o ∈ ops) (hg : o.guard = none) (h : ∀ K : Act → World → Prop, (∀ a w, wpListIn Fence.wide nn P ops Q l a w → K a w) → o.wp P a w K Q) : wpListIn Fence.wide nn P ops Q (o :: l) a w :=
  wpListIn_plain hg fun K hK => wpIn_of_wpW (fun c e => by
    have := Array.all_eq_true_iff_forall_mem.1 hnd o hm
    rw [e] at this; cases this) (h K hK)
theorem wpListIn_gW {a : Act} {w : World} {o : Oper} {l : List Oper} (hnd : noDefer ops = true) (hm : o ∈ ops) (hw : Region.wanted o (yielded ops a.tmps) = true) (h : ∀ K : Act → World → Prop, (∀ a w, wpListIn Fence.wide nn P ops Q l a w → K a w) → o.wp P a w K Q) : wpListIn Fence.wide nn P ops Q (o :: l) a w :=
  wpListIn_step fun K hK => by
    rw [if_pos hw]
    exact wpIn_of_wpW (fun c e => by
      have := Array.all_eq_true_iff_forall_mem.1 hnd o hm
      rw [e] at this; cases this) (h K hK)
theorem wpListIn_endW {a : Act} {w : World} {l : List Oper} (hl : l = []) (h : Q .normal a w) : wpListIn Fence.wide nn P ops Q l a w := by subst hl; exact h
end
theorem opr_mvV {P : Program} {a : Act} {w : World} {o : Oper} {K : Act → World → Prop} {Q : Exit → Act → World → Prop} {x : Operand} {v : Value} (ho : o.op = .move x ∨ o.op = .assign x) (hv : a.eval x = v) (h : K (a.put o.dst v) w) : o.wp P a w K Q := by
  subst hv; exact opr_move ho h
theorem opr_putmW {P : Program} {a : Act} {w : World} {o : Oper} {K : Act → World → Prop} {Q : Exit → Act → World → Prop} {t t' : TypeId} {x y : Operand} {g o0 n m : Nat} {f f0 F : Nat → Value} (ho : o.op = .store t x y) (hx : a.eval x = .pointer (some ⟨g, o0, none⟩)) (hy : a.eval y = .agg (rowA m f)) (hr : w.rowIs g t' n f0) (hm : o0 + m ≤ n) (hi : (P.info? t).map (·.size) = some m) (hone : ∀ i, (f i).oneCell' = true)
    (hF : ∀ i, i < n → F i = if o0 ≤ i ∧ i < o0 + m then f (i - o0) else f0 i) (h : ∀ w', RT g w w' → KeepsOthers w w' → w'.rowIs g t' n F → K (a.put o.dst undef) w') : o.wp P a w K Q := by
  refine wp_store_mid t x y ho g o0 (rowA m f) hx hy (by rw [rowA_size]; exact fun j hj => ⟨by simp [hr.cell (i := o0 + j) (by omega)], by simpa using hr.frozen (o0 + j)⟩) (by rw [rowA_size]; exact hi) (rowA_one _ _ hone) ?_
  refine h _ (RT.setCells _ _ _) (keepsOthers_setCells _ _ _ _) ((rowIs_setCells_at hr (rowA m f).toList o0).congr fun i hi => ?_)
  rw [hF i hi, rowA_toList]
  simp only [List.length_map, List.length_range]
  by_cases h : o0 ≤ i ∧ i < o0 + m
  · rw [if_pos h, if_pos h]
    simp [show i - o0 < m by omega]
  · rw [if_neg h, if_neg h]
end Go.Proofs.YtbejolbknimmmaaDoor
/- A region that draws its order, at the wide fence: all operations but a forced tail read alone. No program is named here. -/
namespace Go.Proofs.YtbejolbknimmmaaDoor
open Go.RowKit
set_option maxRecDepth 8000
set_option linter.all false
variable {P : Program} {ops : Array Oper} {md : Region.Mode} {w : World} {n : Nat}

theorem wpOpIn_of_stOp2 (hnd : noDefer ops = true) {i : Nat} {a : Act} {K : Act → Prop} {K' : Act → World → Prop} {Q' : Exit → Act → World → Prop} (h : ∀ a, K a → K' a w) (hh : stOp P ops w i K a) :
    wpOpIn Fence.wide n P ops Q' i K' a w := by
  unfold stOp at hh
  unfold wpOpIn
  cases ho : ops[i]? with
  | none => simp only [ho] at hh ⊢; exact h _ hh
  | some o =>
    simp only [ho] at hh ⊢
    split
    · rename_i hw
      simp only [hw, if_true] at hh
      refine ⟨fun _ _ => trivial, ?_⟩
      rw [Oper.semAt_eq _ _ _ (noDefer_at hnd ho)]
      unfold Oper.still at hh
      generalize (execOp a.eval o).run P w = r at *
      cases r with
      | ok x w' =>
        cases x <;> simp only [Oper.stillUpon] at hh <;> simp only [Oper.uponIn]
        case enter f args =>
          obtain ⟨rfl, v, hc, hn⟩ := hh
          refine ⟨fun hd => by simp [Fence.wide] at hd, ((callsIn_wide.2 hc).mono fun e w'' he => ?_)⟩
          obtain ⟨rfl, rfl⟩ := he
          exact h _ hn
        all_goals (obtain ⟨rfl, h2⟩ := hh; exact h _ h2)
      | halt x w' => simp only [Oper.stillUpon] at hh
    · rename_i hw
      simp only [hw] at hh
      exact ⟨fun _ _ => trivial, h _ hh⟩
theorem wpAnyIn_of_head2 (hnd : noDefer ops = true) {m g : Nat} {L : Array Bool → Act → Prop} {Q' : Exit → Act → World → Prop} (hL : ∀ listed a, L listed a → wpAnyIn Fence.wide n P md ops Q' g listed a w) :
    ∀ (f : Nat) (listed : Array Bool) (a : Act), wpAnyL P md ops w m L f listed a → wpAnyIn Fence.wide n P md ops Q' (f + g) listed a w
  | 0, listed, a, h => by rw [Nat.zero_add]; exact hL _ _ h
  | f + 1, listed, a, h => by
    rw [show f + 1 + g = (f + g) + 1 by omega]
    exact ⟨fun h0 => absurd h0 h.1, fun i hi => wpOpIn_of_stOp2 hnd (fun a' h' => wpAnyIn_of_head2 hnd hL f _ a' h') (h.2 i hi).2⟩
theorem wpAnyIn_of_seq2 {Q' : Exit → Act → World → Prop} : ∀ (l : List Oper) (k : Nat) (listed : Array Bool) (a : Act) (w : World), (∀ j, l[j]? = ops[k + j]?) →
    Region.seqB md ops l.length k listed = true → wpListIn Fence.wide n P ops Q' l a w → wpAnyIn Fence.wide n P md ops Q' l.length listed a w
  | [], _, _, _, _, _, hB, h => ⟨by simpa [Region.seqB] using hB, h⟩
  | o :: l, k, listed, a, w, hl, hB, h => by
    have h0 : ops[k]? = some o := by simpa using (hl 0).symm
    simp only [List.length_cons, Region.seqB, Bool.and_eq_true, decide_eq_true_eq] at hB
    refine ⟨fun h1 => (by rw [hB.1] at h1; cases h1), fun i hi => ?_⟩
    rw [hB.1] at hi
    have hik : i = k := by simpa using hi
    subst hik
    have hw : wpOpIn Fence.wide n P ops Q' i (wpListIn Fence.wide n P ops Q' l) a w := by unfold wpOpIn; simp only [h0]; exact h
    exact wpOpIn_mono (fun a' w' h' => wpAnyIn_of_seq2 l (i + 1) _ a' w' (fun j => by have := hl (j + 1); simpa [Nat.add_assoc, Nat.add_comm 1 j] using this) hB.2 h') hw

/-- All operations but a forced tail read alone: in the text's order, at the wide fence. -/
theorem region_in_tail {id : Nat} {Q : Exit → Act → World → Prop} {a : Act} {w : World} {l : List Oper} (m : Nat) (hm : P.follows .mixedOrders = true) (hB : Region.lexTailB .any l.toArray m = true) (hnd : noDefer l.toArray = true)
    (h : wpStill P l.toArray w.drew (fun a' => wpListIn Fence.wide n P l.toArray Q (l.drop m) a' w.drew) (l.take m) a) : (Code.region id l.toArray true).wpIn Fence.wide n P Q a w := by
  simp only [Region.lexTailB, Bool.and_eq_true, decide_eq_true_eq] at hB
  obtain ⟨⟨⟨⟨hsel, hn⟩, hs⟩, hc⟩, hlex⟩ := hB
  have hn' : m < l.length := by simpa using hn
  have htl : (l.take m).length = m := by simp; omega
  have hdl : (l.drop m).length = l.toArray.size - m := by simp
  have inv0 : HeadInv .any l.toArray m (Array.replicate l.toArray.size false) :=
    ⟨by simp, fun j oj _ hl => (by rw [getD_replicate_false] at hl; cases hl), fun t _ ht => getD_in (by simpa using ht) (getD_replicate_false _ _)⟩
  have H := wpAnyL_lex (md := .any) (g := l.toArray.size - m) hsel hs hc hn (l.take m) 0 _ a (fun j hj => by
    have hj' : j < m := by rw [htl] at hj; exact hj
    simp [hj']) (by simpa using htl) inv0 (by rw [htl]; exact hlex) h
  refine wpIn_region_any hm ?_
  have := wpAnyIn_of_head2 (n := n) hnd (Q' := Q) (g := l.toArray.size - m) (fun listed a' hL => by
    have := wpAnyIn_of_seq2 (n := n) (md := .any) (Q' := Q) (l.drop m) m listed a' w.drew (fun j => by simp [List.getElem?_drop]) (by rw [hdl]; exact hL.1) hL.2
    rwa [hdl] at this) _ _ _ H
  rw [htl, show m + (l.toArray.size - m) = l.toArray.size by omega] at this
  exact this
end Go.Proofs.YtbejolbknimmmaaDoor
/- The entries that stand in bytes, handed on by an iterator. -/
namespace Go.Proofs.YtbejolbknimmmaaDoor
open Go Go.RowKit Go.Shelf
set_option maxRecDepth 8000
set_option linter.all false
attribute [local go_sem] Oper.semAt_some
/-- The chain ahead of all entries. -/
def hash0 : Nat → UInt8 := fun _ => 0
/-- An entry that is handed on, and where it ends. -/
structure EntX where
  u : Value
  e : List UInt8
  p : Nat
  c : Nat
  d : Nat → UInt8
def encX (x : EntX) : Array Value := #[x.u, .agg (rowA 34 (enF (x.p : Int) (x.c : Int) x.d))]
def esX (pre : List EntX) : List (List UInt8) := pre.map (·.e)
theorem esX_snoc (pre : List EntX) (x : EntX) : esX (pre ++ [x]) = esX pre ++ [x.e] := by simp [esX]
theorem esX_length (pre : List EntX) : (esX pre).length = pre.length := by simp [esX]
/-- What is told of an entry. -/
structure GEnt (nx : (Nat → UInt8) → List UInt8 → Nat → UInt8) (S : List UInt8) (pre : List EntX) (x : EntX) (A W : World) : Prop where
  ok : okE x.e
  at' : encL nx mkL hash0 (esX pre ++ [x.e]) <+: S
  place : x.p = (encL nx mkL hash0 (esX pre ++ [x.e])).length
  count : x.c = pre.length + 1
  chain : x.d = chL nx hash0 (esX pre ++ [x.e])
  new : ∀ L, (∀ k ∈ L, k < A.heap.size) → RdV W L x.u x.e
theorem Tables.but {w w' : World} (h : Tables w) {M : List Nat} (h0 : 0 ∉ M) (h1 : 1 ∉ M) (hK : KeepBut M w w') : Tables w' :=
  ⟨Nat.lt_of_lt_of_le h.size hK.1, fun i hi => hK.cell (a := ⟨1, i, none⟩) h1 (h.k i hi), fun i hi => hK.cell (a := ⟨0, i, none⟩) h0 (h.f i hi)⟩
theorem RdV.but {w w' : World} {v : Value} {l : List UInt8} (h : RdV w [] v l) {M : List Nat} (hM : ∀ k, v.ownBlock = some k → k ∉ M) (hK : KeepBut M w w') : RdV w' [] v l := by
  obtain ⟨A, c, rfl, h1, h2, h3⟩ := h
  refine ⟨A, c, rfl, h1, h2, fun h0 => ?_⟩
  obtain ⟨b, o, rfl, _, hc⟩ := h3 h0
  exact ⟨b, o, rfl, by simp, fun i hi => hK.cell (a := ⟨b, o + i, none⟩) (hM b rfl) (hc i hi)⟩
theorem encL_count (nx : (Nat → UInt8) → List UInt8 → Nat → UInt8) : ∀ (c : Nat → UInt8) (es : List (List UInt8)), es.length ≤ (encL nx mkL c es).length
  | _, [] => Nat.zero_le _
  | c, e :: es => by
    have := encL_count nx (nx c e) es
    have := entL_pos nx mkL c e
    rw [encL, List.length_append, List.length_cons]; omega
theorem pre_drop {A B S : List UInt8} (h : A ++ B <+: S) : B <+: S.drop A.length := by
  obtain ⟨r, rfl⟩ := h
  exact ⟨r, by rw [List.append_assoc, List.drop_left]⟩
theorem pre_app {A B S : List UInt8} (h : A <+: S) (k : B <+: S.drop A.length) : A ++ B <+: S := by
  obtain ⟨r, rfl⟩ := h
  rw [List.drop_left] at k
  exact (List.prefix_append_right_inj _).2 k
theorem RdV.join {W w : World} {L : List Nat} {v : Value} {l : List UInt8} (h : RdV W L v l) (k : RdV w [] v l) : RdV w L v l := by
  obtain ⟨A, c, rfl, h1, h2, h3⟩ := h
  obtain ⟨A', c', e, k1, k2, k3⟩ := k
  cases e
  refine ⟨A, c, rfl, h1, h2, fun h0 => ?_⟩
  obtain ⟨b, o, rfl, hb, _⟩ := h3 h0
  obtain ⟨b', o', e, _, hc⟩ := k3 h0
  cases e
  exact ⟨b, o, rfl, hb, hc⟩
/-- How it stands at the loop's head. -/
structure EInv (nx : (Nat → UInt8) → List UInt8 → Nat → UInt8) (S : List UInt8) (ga pbx : Nat) (v : Value) (pre : List EntX) (wr : World) : Prop where
  row : wr.rowIs ga 62 34 (enF ((encL nx mkL hash0 (esX pre)).length : Int) (pre.length : Int) (chL nx hash0 (esX pre)))
  box : wr.cell? ⟨pbx, 0, none⟩ = some v
  rd : RdV wr [] v S
  tab : Tables wr
  ok : ∀ e ∈ esX pre, okE e
  at' : encL nx mkL hash0 (esX pre) <+: S
set_option maxHeartbeats 400000 in
theorem entries_any (A : Option Addr) (n c : Nat) (w : World) : Calls Tryd.prog 31 #[.slice A n c] w fun e w' => e = .returned (.func (.func 44) #[] #[.pointer (some ⟨w.heap.size, 0, none⟩)]) ∧ w.alloc (.cells #[.slice A n c] 33) = w' := by
  go_enter Tryd.func31, Tryd.ntmps31
  go_wp2
  go_ret
  exact ⟨rfl, rfl⟩
set_option maxHeartbeats 4000000 in
theorem entries1_seq {nx : (Nat → UInt8) → List UInt8 → Nat → UInt8} (hX : LogH nx) (pbx : Nat) (v : Value) (S : List UInt8) (w : World) (hT : Tables w) (hbox : w.cell? ⟨pbx, 0, none⟩ = some v) (hS : RdV w [] v S) (hl : S.length ≤ 900000) :
    SeqK Tryd.prog 44 #[.pointer (some ⟨pbx, 0, none⟩)] encX (0 :: 1 :: pbx :: v.ownBlock.toList) (GEnt nx S) (fun xs => IsLog nx mkL hash0 S (esX xs)) w := by
  intro l J W hW hJ hY h0
  have HT := Lib.hid (hT.below hW)
  have HBX := Lib.hid (KeepBut.cell (KeepBut.below (L := []) hW) (by simp) hbox)
  have HS := Lib.hid ((NewT.of hW).rd hS)
  have Hl := Lib.hid hl
  obtain ⟨g, hg⟩ : ∃ g, W.heap.size = g := ⟨_, rfl⟩
  rw [hg] at hJ hY
  have r0 := rowIs_box W 62 34 (enF 0 0 fun _ => 0)
  have hN := NewT.alloc W (.cells (rowA 34 (enF 0 0 fun _ => 0)) 62)
  have hit := ItS.new (g := g) (by omega) hN
  have hsz : (W.alloc (.cells (rowA 34 (enF 0 0 fun _ => 0)) 62)).heap.size = g + 1 := by simp [hg]
  rw [hg] at r0
  clear hT hbox hS hl
  refine callsIn_of_wp Tryd.func44 rfl trivial ?_ rfl
  simp only [Tryd.ntmps44, List.size_toArray, List.length_cons, List.length_nil, Nat.reduceAdd, Nat.reduceSub, Array.replicate_succ, Array.replicate_zero, List.push_toArray, List.append_toArray, List.nil_append, List.cons_append]
  have hal := run_alloc_en
  gi_wp2
  gi_loopw [4] (fun _ wr => ∃ pre, J pre wr ∧ Hid (EInv nx S g pbx v pre wr)) (fun _ wr => S.length - (intOf ((wr.cell? ⟨g, 0, none⟩).getD undef)).toNat)
  case atStart => exact ⟨[], hJ _ _ _ h0 hit, Lib.hid ⟨r0, (NewT.of hN) |> fun h => KeepBut.cell (KeepBut.below (L := []) h) (by simp) HBX.out, (NewT.of hN).rd HS.out, (HT.out.below hN), by simp [esX], List.nil_prefix⟩⟩
  case round =>
    obtain ⟨pre, hJr, hI⟩ := hrel
    clear h0 hit r0 hN hsz hal
    obtain ⟨x, hx⟩ := hid_ex (candL (S.drop (encL nx mkL hash0 (esX pre)).length))
    obtain ⟨b, hb⟩ : ∃ b : Bool, Hid (b = true ↔ entL nx mkL (chL nx hash0 (esX pre)) x <+: S.drop (encL nx mkL hash0 (esX pre)).length) := ⟨decide _, Lib.hid decide_eq_true_iff⟩
    have hpl := hI.out.at'.length_le
    have hpn : pre.length ≤ (encL nx mkL hash0 (esX pre)).length := by rw [← esX_length]; exact encL_count nx _ _
    obtain ⟨p, hp⟩ := hid_ex (encL nx mkL hash0 (esX pre)).length
    obtain ⟨d, hd⟩ := hid_ex (chL nx hash0 (esX pre))
    have hr := hI.out.row
    rw [hp.out] at hx hb hpl hpn
    rw [hd.out] at hb
    rw [hp.out, hd.out] at hr
    have hgw := hr.lt
    have HR := Lib.hid hr
    have HPL : Hid (p ≤ S.length ∧ pre.length ≤ p) := Lib.hid ⟨hpl, hpn⟩
    clear hr hpl hpn
    gi_upto_region 1 with fail
    refine wpIn_region_lit ?_
    refine wpListIn_wpW (by kernel_rfl) (by simp) rfl (fun K hK => ?_)
    refine opr_ld1 Tryd.underlying33 rfl rfl rfl hI.out.box (hK _ _ ?_)
    clear hK K
    refine wpListIn_wpW (by kernel_rfl) (by simp) rfl (fun K hK => ?_)
    refine opr_ldE HR.out (Nat.le_refl _) (fun _ _ => rfl) rfl rfl (hK _ _ ?_)
    clear hK K
    simp only [Act.put, List.setIfInBounds_toArray, List.set_cons_zero, List.set_cons_succ]
    refine wpListIn_wpW (by kernel_rfl) (by simp) rfl (fun K hK => ?_)
    refine opr_call rfl Tryd.func45 (by kernel_rfl) (by kernel_rfl) (by simp only [List.map_toArray, List.map_cons, List.map_nil, eval_tmp]; rfl) ((Next_any hX v S x p pre.length d b wr hI.out.tab hI.out.rd Hl.out HPL.out.1 (by have := HPL.out; have := Hl.out; omega) hx.out hb.out).mono ?_)
    rintro _ w2 ⟨u, t, rfl, hN2, hcase⟩
    have ht1 : ∀ i, (t i).oneCell' = true := by rcases hcase with ⟨_, _, rfl⟩ | ⟨_, _, rfl, _⟩ <;> exact enF_one _ _ _
    refine ⟨_, rfl, hK _ _ ?_⟩
    clear hK K
    simp only [Act.put, List.setIfInBounds_toArray, List.set_cons_zero, List.set_cons_succ]
    refine wpListIn_wpW (by kernel_rfl) (by simp) rfl (fun K hK => ?_)
    refine opr_mvV (.inl rfl) rfl (hK _ _ ?_)
    clear hK K
    simp only [Act.put, List.setIfInBounds_toArray, List.set_cons_zero, List.set_cons_succ]
    refine wpListIn_wpW (by kernel_rfl) (by simp) rfl (fun K hK => ?_)
    refine opr_ext (k := 0) rfl rfl rfl (hK _ _ ?_)
    clear hK K
    simp only [Act.put, List.setIfInBounds_toArray, List.set_cons_zero, List.set_cons_succ]
    refine wpListIn_wpW (by kernel_rfl) (by simp) rfl (fun K hK => ?_)
    refine opr_ext (k := 1) rfl rfl rfl (hK _ _ ?_)
    clear hK K
    simp only [Act.put, List.setIfInBounds_toArray, List.set_cons_zero, List.set_cons_succ]
    refine wpListIn_wpW (by kernel_rfl) (by simp) rfl (fun K hK => ?_)
    refine opr_alloc_en rfl (hK _ _ ?_)
    clear hK K
    have r5 := rowIs_box w2 62 34 (enF 0 0 fun _ => 0)
    have hn23 := NewT.alloc w2 (.cells (rowA 34 (enF 0 0 fun _ => 0)) 62)
    have hN5 := NewT.trans _ _ _ hN2 hn23
    generalize w2.alloc (.cells (rowA 34 (enF 0 0 fun _ => 0)) 62) = w3 at r5 hN5 hn23 ⊢
    obtain ⟨g5, hg5⟩ : ∃ g5, w2.heap.size = g5 := ⟨_, rfl⟩
    have hw5 : wr.heap.size ≤ g5 := by rw [← hg5]; exact hN2.out.size
    rw [hg5] at r5 ⊢
    simp only [Act.put, List.setIfInBounds_toArray, List.set_cons_zero, List.set_cons_succ]
    refine wpListIn_wpW (by kernel_rfl) (by simp) rfl (fun K hK => ?_)
    refine opr_mvV (.inr rfl) rfl (hK _ _ ?_)
    clear hK K
    simp only [Act.put, List.setIfInBounds_toArray, List.set_cons_zero, List.set_cons_succ]
    refine wpListIn_wpW (by kernel_rfl) (by simp) rfl (fun K hK => ?_)
    refine opr_putmW (f := t) (F := t) rfl rfl rfl r5 (by decide) infoE' ht1 (fun i hi => by rw [if_pos (by omega), Nat.sub_zero]) ?_
    intro w4 hR4 hO4 r4
    refine hK _ _ ?_
    clear hK K
    refine wpListIn_endW rfl ?_
    simp only [Act.put]
    go_simp
    have hN4 : NewT wr w4 := NewT.rt hN5 hR4 hw5
    have HR4 := Lib.hid (hN4.row HR.out)
    have HN4 := Lib.hid hN4
    have HI4 := Lib.hid (ItS.new (g := g) (Nat.le_of_lt hgw) hN4)
    clear hO4 hN5 hN4 r5 hN2
    rcases hcase with ⟨hno, rfl, rfl⟩ | ⟨hx0, rfl, rfl, hu⟩
    · have R4 := Lib.hid r4
      have HE : Hid (eqE (p : Int) (pre.length : Int) d (p : Int) (pre.length : Int) d = true) := Lib.hid (by simp [eqE, eqH_same])
      have HNO := Lib.hid hno
      clear r4 hno hR4 hg5 hn23
      gi_upto_region 2 with fail
      refine wpIn_region_lit ?_
      refine wpListIn_wpW (by kernel_rfl) (by simp) rfl (fun K hK => ?_)
      refine opr_ldE R4.out (Nat.le_refl _) (fun _ _ => rfl) rfl rfl (hK _ _ ?_)
      clear hK K
      refine wpListIn_wpW (by kernel_rfl) (by simp) rfl (fun K hK => ?_)
      refine opr_ldE HR4.out (Nat.le_refl _) (fun _ _ => rfl) rfl rfl (hK _ _ ?_)
      clear hK K
      simp only [Act.put, List.setIfInBounds_toArray, List.set_cons_zero, List.set_cons_succ]
      refine wpListIn_wpW (by kernel_rfl) (by simp) rfl (fun K hK => ?_)
      refine opr_eqlE (b := true) rfl rfl rfl HE.out (hK _ _ ?_)
      clear hK K
      simp only [Act.put, List.setIfInBounds_toArray, List.set_cons_zero, List.set_cons_succ]
      refine wpListIn_wpW (by kernel_rfl) (by simp) rfl (fun K hK => ?_)
      refine opr_mvV (.inl rfl) rfl (hK _ _ ?_)
      clear hK K
      simp only [Act.put, List.setIfInBounds_toArray, List.set_cons_zero, List.set_cons_succ]
      iterate 5 (refine wpListIn_skip (by kernel_rfl) (by kernel_rfl) ?_; simp only [Act.put, List.setIfInBounds_toArray, List.set_cons_zero, List.set_cons_succ])
      refine wpListIn_wpW (by kernel_rfl) (by simp) rfl (fun K hK => ?_)
      refine opr_pick_true rfl rfl (hK _ _ ?_)
      clear hK K
      simp only [Act.put, List.setIfInBounds_toArray, List.set_cons_zero, List.set_cons_succ]
      refine wpListIn_endW rfl ?_
      go_simp
      gi_wp2
      refine bodyPost_ret (results_none rfl _ _ _) rfl ?_
      refine ⟨⟨_, rfl⟩, pre, ⟨hI.out.ok, hI.out.at', fun e he hpe => ?_⟩, hJ _ _ _ hJr HI4.out⟩
      have hq := next_none (nx := nx) (d := d) (r := S.drop p) (by
        rw [hx.out]
        rcases HNO.out with h | h
        · exact .inl h
        · exact .inr fun hh => by have := hb.out.2 hh; rw [h] at this; cases this) e he
      apply hq
      rw [encL_snoc, hd.out] at hpe
      have := pre_drop hpe
      rwa [hp.out] at this
    · have hok : okE x := by rw [← hx.out]; exact cand_ok (by rw [hx.out]; exact hx0)
      have hent : entL nx mkL d x <+: S.drop p := hb.out.1 rfl
      obtain ⟨m, hm⟩ : ∃ m, (entL nx mkL d x).length = m := ⟨_, rfl⟩
      have hes : (p : Int) + esz (x.length : Int) = ((p + m : Nat) : Int) := by rw [esz_ok hok nx d, hm]; omega
      have hm1 : 1 ≤ m := by rw [← hm]; exact entL_pos nx mkL d x
      rw [hes] at r4
      rw [hes]
      have hc1 : ((pre.length : Int) + 1) = ((pre.length + 1 : Nat) : Int) := by omega
      rw [hc1] at r4
      rw [hc1]
      have hat : encL nx mkL hash0 (esX pre ++ [x]) <+: S := by
        rw [encL_snoc, hd.out]
        exact pre_app hI.out.at' (by rw [hp.out]; exact hent)
      have hlen : (encL nx mkL hash0 (esX pre ++ [x])).length = p + m := by rw [encL_snoc, hd.out, List.length_append, hp.out, hm]
      have hch : chL nx hash0 (esX pre ++ [x]) = nx d x := by rw [chL_snoc, hd.out]
      have hy0 := hY pre ⟨u, x, p + m, pre.length + 1, nx d x⟩ wr w4 hJr hgw HI4.out ⟨hok, hat, hlen.symm, rfl, hch.symm, fun L hL => by
        have h5 : RdV w3 (g5 :: L) u x := hn23.rd ((hu L hL).more fun k hk hkl => by rw [List.mem_cons, not_or]; exact ⟨by omega, hkl⟩)
        exact (h5.keep (hR4.keep.more (by simp))).less (fun k hk => by simp [hk])⟩
      obtain ⟨fn, tmps, assign, body, hy, hR⟩ := hy0
      have HRN := Lib.hid hR
      have R4 := Lib.hid r4
      have HE : Hid (eqE ((p + m : Nat) : Int) ((pre.length + 1 : Nat) : Int) (nx d x) (p : Int) (pre.length : Int) d = false) := Lib.hid (by
        unfold eqE
        rw [show ((((p + m : Nat) : Int)) == (p : Int)) = false from beq_eq_false_iff_ne.2 (by omega)]; rfl)
      have HF := Lib.hid (⟨hok, hat, hlen, hch, hm1⟩ : okE x ∧ encL nx mkL hash0 (esX pre ++ [x]) <+: S ∧ (encL nx mkL hash0 (esX pre ++ [x])).length = p + m ∧ chL nx hash0 (esX pre ++ [x]) = nx d x ∧ 1 ≤ m)
      clear hR r4 hes hc1 hok hent hat hlen hch hu hR4 hg5 hn23
      obtain ⟨q, hq⟩ : ∃ q, p + m = q := ⟨_, rfl⟩
      obtain ⟨c, hc⟩ : ∃ c, pre.length + 1 = c := ⟨_, rfl⟩
      rw [hq] at HE R4 HF hy HRN ⊢
      rw [hc] at HE R4 hy HRN ⊢
      have HCQ := Lib.hid (⟨hq, hc⟩ : p + m = q ∧ pre.length + 1 = c)
      clear hq hc
      simp only [encX] at hy
      gi_upto_region 2 with fail
      refine wpIn_region_lit ?_
      refine wpListIn_wpW (by kernel_rfl) (by simp) rfl (fun K hK => ?_)
      refine opr_ldE R4.out (Nat.le_refl _) (fun _ _ => rfl) rfl rfl (hK _ _ ?_)
      clear hK K
      refine wpListIn_wpW (by kernel_rfl) (by simp) rfl (fun K hK => ?_)
      refine opr_ldE HR4.out (Nat.le_refl _) (fun _ _ => rfl) rfl rfl (hK _ _ ?_)
      clear hK K
      simp only [Act.put, List.setIfInBounds_toArray, List.set_cons_zero, List.set_cons_succ]
      refine wpListIn_wpW (by kernel_rfl) (by simp) rfl (fun K hK => ?_)
      refine opr_eqlE (b := false) rfl rfl rfl HE.out (hK _ _ ?_)
      clear hK K
      simp only [Act.put, List.setIfInBounds_toArray, List.set_cons_zero, List.set_cons_succ]
      refine wpListIn_wpW (by kernel_rfl) (by simp) rfl (fun K hK => ?_)
      refine opr_mvV (.inl rfl) rfl (hK _ _ ?_)
      clear hK K
      simp only [Act.put, List.setIfInBounds_toArray, List.set_cons_zero, List.set_cons_succ]
      refine wpListIn_gW (by kernel_rfl) (by simp) (by kernel_rfl) (fun K hK => ?_)
      refine opr_mvV (.inl rfl) rfl (hK _ _ ?_)
      clear hK K
      simp only [Act.put, List.setIfInBounds_toArray, List.set_cons_zero, List.set_cons_succ]
      refine wpListIn_gW (by kernel_rfl) (by simp) (by kernel_rfl) (fun K hK => ?_)
      refine opr_mvV (.inl rfl) rfl (hK _ _ ?_)
      clear hK K
      simp only [Act.put, List.setIfInBounds_toArray, List.set_cons_zero, List.set_cons_succ]
      refine wpListIn_gW (by kernel_rfl) (by simp) (by kernel_rfl) (fun K hK => ?_)
      refine opr_ldE R4.out (Nat.le_refl _) (fun _ _ => rfl) rfl rfl (hK _ _ ?_)
      clear hK K
      simp only [Act.put, List.setIfInBounds_toArray, List.set_cons_zero, List.set_cons_succ]
      gi_wp2
      refine ⟨rfl, HRN.out.mono ?_⟩
      rintro _ w5 ⟨rfl, hJ5, ⟨M, hM, hK5⟩, hF5⟩
      have hgM : g ∉ M := fun hm' => (hM g hm').2.1 rfl
      have h0M : 0 ∉ M := fun hm' => (hM 0 hm').2.2 (by simp)
      have h1M : 1 ∉ M := fun hm' => (hM 1 hm').2.2 (by simp)
      have hpM : pbx ∉ M := fun hm' => (hM pbx hm').2.2 (by simp)
      have hvM : ∀ k, v.ownBlock = some k → k ∉ M := fun k hk hm' => (hM k hm').2.2 (by simp [hk])
      have h5M : g5 ∉ M := fun hm' => by have := (hM g5 hm').1; omega
      have R5 := Lib.hid (hK5.row h5M R4.out)
      have RG := Lib.hid (hK5.row hgM HR4.out)
      have HB5 := Lib.hid (hK5.cell (a := ⟨pbx, 0, none⟩) hpM (KeepBut.cell (KeepBut.below (L := []) HN4.out) (by simp) hI.out.box))
      have HD5 := Lib.hid ((HN4.out.rd hI.out.rd).but hvM hK5)
      have HT5 := Lib.hid ((hI.out.tab.below HN4.out).but h0M h1M hK5)
      clear hgM h0M h1M hpM hvM h5M hK5 hM hF5
      gi_upto_region 3 with fail
      refine wpIn_region_lit ?_
      refine wpListIn_wpW (by kernel_rfl) (by simp) rfl (fun K hK => ?_)
      refine opr_ldE R5.out (Nat.le_refl _) (fun _ _ => rfl) rfl rfl (hK _ _ ?_)
      clear hK K
      simp only [Act.put, List.setIfInBounds_toArray, List.set_cons_zero, List.set_cons_succ]
      refine wpListIn_wpW (by kernel_rfl) (by simp) rfl (fun K hK => ?_)
      refine opr_putmW (F := enF (q : Int) (c : Int) (nx d x)) rfl rfl rfl RG.out (by decide) infoE' (fun _ => enF_one _ _ _ _) (fun i hi => by rw [if_pos (by omega), Nat.sub_zero]) ?_
      intro w6 hR6 hO6 r6
      refine hK _ _ ?_
      clear hK K
      refine wpListIn_endW rfl ?_
      simp only [Act.put]
      go_simp
      gi_wp2
      go_roundw
      case rel =>
        have e1 : (encL nx mkL hash0 (esX (pre ++ [⟨u, x, q, c, nx d x⟩]))).length = q := by rw [esX_snoc]; exact HF.out.2.2.1
        have e2 : (pre ++ [(⟨u, x, q, c, nx d x⟩ : EntX)]).length = c := by rw [List.length_append]; exact HCQ.out.2
        have e3 : chL nx hash0 (esX (pre ++ [⟨u, x, q, c, nx d x⟩])) = nx d x := by rw [esX_snoc]; exact HF.out.2.2.2.1
        have hpg : pbx ∉ [g] := by
          have := World.block_lt_of_cell? _ _ HBX.out
          simp; simp at this; omega
        have hgs := HT.out.size
        refine ⟨pre ++ [⟨u, x, q, c, nx d x⟩], hJ _ _ _ hJ5 (ItS.of hR6.below hR6.keep hO6), Lib.hid ⟨?_, hR6.keep.cell (a := ⟨pbx, 0, none⟩) hpg HB5.out, ?_, HT5.out.but (M := [g]) (by simp; omega) (by simp; omega) hR6.keep, ?_, ?_⟩⟩
        · rw [e1, e2, e3]; exact r6
        · exact ((RdV.join (HS.out.more (L' := [g]) fun k hk _ => by simp; omega) HD5.out).keep hR6.keep).less (by simp)
        · intro e he
          rw [esX_snoc, List.mem_append] at he
          rcases he with he | he
          · exact hI.out.ok e he
          · simp at he; subst he; exact HF.out.1
        · rw [esX_snoc]; exact HF.out.2.1
      case measure =>
        have c6 := r6.cell (i := 0) (by omega)
        have c0 := HR.out.cell (i := 0) (by omega)
        have h1 := HF.out.2.1.length_le
        rw [HF.out.2.2.1] at h1
        have h2 := HF.out.2.2.2.2
        have h3 := HCQ.out.1
        rw [c6, c0]
        show S.length - (q : Int).toNat < S.length - (p : Int).toNat
        omega
end Go.Proofs.YtbejolbknimmmaaDoor
/- Rows of bytes of the call's own: what is left of them, appends onto them. -/
namespace Go.Proofs.YtbejolbknimmmaaDoor
open Go Go.RowKit
set_option maxRecDepth 8000
set_option linter.all false
/-- A row of bytes of the call's own, from block B on. -/
def OwnB (W : World) (B : Nat) (v : Value) (l : List UInt8) : Prop := W.ownsRow B 5 1 v l.length (l.map (fun b : UInt8 => Value.int .u8 (bN b)))
theorem OwnB.keep {W W' : World} {B : Nat} {v : Value} {l : List UInt8} (h : OwnB W B v l) (hN : NewT W W') : OwnB W' B v l := by
  obtain ⟨h1, h2⟩ := h
  refine ⟨h1, ?_⟩
  rcases h2 with h2 | ⟨g, cap, cur, hv, hb, hg, r⟩
  · exact .inl h2
  · exact .inr ⟨g, cap, cur, hv, hb, (hN.out.block g (Array.getElem?_eq_some_iff.1 hg).1).trans hg, r⟩
theorem OwnB.rd {W : World} {B : Nat} {v : Value} {l : List UInt8} (h : OwnB W B v l) : RdV W [] v l := rdV_own h rfl (by simp)
def svOB (B : Nat) (l : List UInt8) : SV NewT := ⟨fun v w => OwnB w B v l, fun _ _ _ h hT => h.keep hT⟩
theorem ownB_nil (W : World) (B : Nat) : OwnB W B (.slice none 0 0) [] := World.ownsRow_nil W B _ _
theorem OwnB.lt {W : World} {B : Nat} {v : Value} {l : List UInt8} (h : OwnB W B v l) : ∀ k, v.ownBlock = some k → B ≤ k ∧ k < W.heap.size := World.ownsRow.lt h
theorem OwnB.of_block {W W' : World} {B : Nat} {v : Value} {l : List UInt8} (h : OwnB W B v l) (hk : ∀ k o, v.ownBlock = some k → W.heap[k]? = some o → o.isCells = true → W'.heap[k]? = some o) : OwnB W' B v l := by
  obtain ⟨h1, h2⟩ := h
  refine ⟨h1, ?_⟩
  rcases h2 with h2 | ⟨g, cap, cur, hv, hb, hg, r⟩
  · exact .inl h2
  · exact .inr ⟨g, cap, cur, hv, hb, hk g _ (by rw [hv]; rfl) hg rfl, r⟩
theorem OwnB.cap {W : World} {B : Nat} {v : Value} {l : List UInt8} (h : OwnB W B v l) : ∃ A c, v = .slice A l.length c ∧ l.length ≤ c := by
  rcases h.2 with ⟨hv, h0⟩ | ⟨g, cap, cur, hv, _, _, hc, _⟩
  · exact ⟨none, 0, by rw [hv, h0], by omega⟩
  · exact ⟨_, cap, hv, hc⟩
theorem OwnB.one {W : World} {B : Nat} {v : Value} {l : List UInt8} (h : OwnB W B v l) : v.oneCell' = true := by obtain ⟨A, c, rfl, _⟩ := h.cap; rfl
/-- It reads as l, outside of all blocks but its own. -/
theorem OwnB.rdL {W : World} {B : Nat} {v : Value} {l : List UInt8} (h : OwnB W B v l) {L : List Nat} (hL : ∀ k ∈ L, k < B) : RdV W L v l := rdV_own h rfl hL
/-- The last ones are left off. -/
theorem OwnB.take {W : World} {B : Nat} {A : Option Addr} {n c k : Nat} {l : List UInt8} (h : OwnB W B (.slice A n c) l) (hk : k ≤ l.length) : OwnB W B (.slice A k c) (l.take k) := by
  have hl : (l.take k).length = k := by rw [List.length_take]; omega
  refine ⟨by simp, ?_⟩
  rcases h.2 with ⟨hv, h2⟩ | ⟨g, cap, cur, hv, hb, hg, hc, hm, hs, hx⟩
  · cases hv
    obtain rfl : k = 0 := by omega
    exact .inl ⟨rfl, hl⟩
  · cases hv
    refine .inr ⟨g, c, cur, by rw [hl], hb, hg, by rw [hl]; omega, hm, hs, ?_⟩
    have e := congrArg (List.take k) hx
    rw [List.take_take, Nat.mul_one, Nat.min_eq_left hk, ← List.map_take] at e
    rw [hl, Nat.mul_one]; exact e
theorem run_appB {W : World} {B : Nat} {v u : Value} {l m : List UInt8} (h : OwnB W B v l) (hr : RdV W [] u m) (hn : l.length + m.length ≤ 1000000) (hB : B ≤ W.heap.size) (ty : TypeId) :
    ∃ v' w', (Builtin.append_ #[33, 33] ty #[v, u]).run Tryd.prog W = .ok v' w' ∧ OwnB w' B v' (l ++ m) ∧ Below B W w' := by
  obtain ⟨i0, hi, hz0, hz1, hz2⟩ := info_parts info5
  obtain ⟨v', w', h1, h2, h3⟩ := run_append_rd (P := Tryd.prog) (ty := ty) Tryd.underlying33 hi hz0 hz1 hz2 h hr hn hB
  refine ⟨v', w', h1, ?_, (Below.refl _ W).grown h3 hB (fun k hk => (World.ownsRow.lt h k hk).1)⟩
  unfold OwnB
  rw [List.length_append, List.map_append]
  exact h2
/-- An append onto an own row stays in its block, or makes a new one. -/
theorem run_appB_two {W : World} {B : Nat} {v u : Value} {l m : List UInt8} {L : List Nat} (h : OwnB W B v l) (hr : RdV W L u m) (hn : l.length + m.length ≤ 1000000) (hB : B ≤ W.heap.size) (ty : TypeId) :
    ∃ v' w', (Builtin.append_ #[33, 33] ty #[v, u]).run Tryd.prog W = .ok v' w' ∧ OwnB w' B v' (l ++ m) ∧ W.grownBy w' v.ownBlock ∧ (v'.ownBlock = v.ownBlock ∨ ∃ k, v'.ownBlock = some k ∧ W.heap.size ≤ k) := by
  obtain ⟨i0, hi, hz0, hz1, hz2⟩ := info_parts info5
  obtain ⟨v', w', h1, h2, h3⟩ := run_append_rd (P := Tryd.prog) (ty := ty) Tryd.underlying33 hi hz0 hz1 hz2 h hr hn hB
  refine ⟨v', w', h1, by unfold OwnB; rw [List.length_append, List.map_append]; exact h2, h3, ?_⟩
  obtain ⟨A, cap, rfl, k1, k2, k3⟩ := hr
  cases A with
  | none =>
    have h0 : m = [] := by
      cases m with
      | nil => rfl
      | cons b l => obtain ⟨_, _, h, _⟩ := k3 (by simp); cases h
    subst h0
    left
    rcases h.2 with ⟨rfl, h0⟩ | ⟨g, cap', cur, rfl, _, _, hnc, _⟩
    · simp [Builtin.append_, run_underlying Tryd.underlying33, sizeOf, typeInfo, hi, Builtin.lenOf, Builtin.firstCells] at h1
      rw [← h1.1]
    · simp [Builtin.append_, run_underlying Tryd.underlying33, sizeOf, typeInfo, hi, Builtin.lenOf, Builtin.firstCells, hnc, storeCells] at h1
      rw [← h1.1]
  | some ad =>
    have hcells : ∀ j u, (m.map fun b => Value.int .u8 (bN b))[j]? = some u → W.cell? (ad.add j) = some u := fun j u hj => by
      have hjl : j < m.length := by have := (List.getElem?_eq_some_iff.1 hj).1; simpa using this
      obtain ⟨b, o, hA, _, hc⟩ := k3 (by omega)
      cases hA
      rw [Addr.add_mid, hc j hjl, ← map_at m j hjl, hj]
    have hz3 : (m.map fun b => Value.int .u8 (bN b)).length = m.length * i0.size := by rw [hz1]; simp
    rcases h.2 with ⟨rfl, h0⟩ | ⟨g, c, cur, rfl, hb, hg, hnc, hcm, hs, ht⟩
    · by_cases hm : m = []
      · subst hm
        simp [Builtin.append_, run_underlying Tryd.underlying33, sizeOf, typeInfo, hi, Builtin.lenOf, Builtin.firstCells, loadCells, loadCellsFrom] at h1
        left
        rw [← h1.1]
      · have hm' : 0 < m.length := by cases m with
          | nil => exact absurd rfl hm
          | cons _ _ => simp
        have hrun := run_append_nil (P := Tryd.prog) W 33 ty 5 i0 _ Tryd.underlying33 hi hz0 ad m.length cap _ hz3 hcells (by omega) (by omega) (by rw [hz2]; omega)
        rw [h1] at hrun
        injection hrun with e _
        right
        exact ⟨W.heap.size, by rw [e]; rfl, Nat.le_refl _⟩
    · by_cases hroom : l.length + m.length ≤ c
      · have hrun := run_append_room (P := Tryd.prog) W 33 ty 5 i0 Tryd.underlying33 hi g l.length c cur hg ad m.length cap _ hz3 hcells (fun u hu => by obtain ⟨b, _, rfl⟩ := List.mem_map.1 hu; rfl) hroom (by rw [hs, hz1]; simp; omega)
        rw [h1] at hrun
        injection hrun with e _
        left
        rw [e]; rfl
      · have hrun := run_append_grow (P := Tryd.prog) W 33 ty 5 i0 _ Tryd.underlying33 hi hz0 ⟨g, 0, none⟩ l.length c _ (by rw [hz1]; exact h.1) (World.ownsRow.cells h (g := g) rfl) ad m.length cap _ hz3 hcells (by omega) (by omega) (growslice_fits (by omega) (by rw [hz2]; omega))
        rw [h1] at hrun
        injection hrun with e _
        right
        exact ⟨W.heap.size, by rw [e]; rfl, Nat.le_refl _⟩
end Go.Proofs.YtbejolbknimmmaaDoor
/- Regions that append onto rows of bytes of their own, piece by piece: what reads as a beginning of all that is put stays so. -/
namespace Go.Proofs.YtbejolbknimmmaaDoor
open Go Go.RowKit
set_option maxRecDepth 8000
set_option linter.all false
theorem app_same {α : Type} (X L M C : List α) (a b k : Nat) (hL : X.take a = L) (ha : L.length = a) (hb : M.length = b) (hC : L ++ M = C.take (a + b)) (hk : X.take k = C.take k) (hX : k ≤ X.length) (hkC : k ≤ C.length) : (X.take a ++ M ++ X.drop (a + b)).take k = X.take k := by
  subst hL
  apply List.ext_getElem?
  intro i
  by_cases hi : i < k
  · rw [List.getElem?_take_of_lt hi, List.getElem?_take_of_lt hi]
    by_cases h1 : i < a
    · rw [List.append_assoc, List.getElem?_append_left (by omega), List.getElem?_take_of_lt h1]
    · by_cases h2 : i < a + b
      · rw [List.getElem?_append_left (by rw [List.length_append]; omega)]
        have e1 := congrArg (·[i]?) hC
        have e2 := congrArg (·[i]?) hk
        simp only [List.getElem?_take_of_lt h2, List.getElem?_take_of_lt hi] at e1 e2
        rw [e1, e2]
      · rw [List.getElem?_append_right (by rw [List.length_append]; omega), List.length_append, ha, hb, List.getElem?_drop, show a + b + (i - (a + b)) = i by omega]
  · rw [List.getElem?_eq_none (by rw [List.length_take]; omega), List.getElem?_eq_none (by rw [List.length_take]; omega)]
/-- A step of a region that puts C, piece by piece, into rows of its own from block B on: new memory, and these rows, are written. -/
structure AppT (B : Nat) (C : List UInt8) (w w' : World) : Prop where
  below : Below B w w'
  own : ∀ v l, l <+: C → OwnB w B v l → OwnB w' B v l
theorem AppT.trans {B : Nat} {C : List UInt8} (a b c : World) (h : AppT B C a b) (k : AppT B C b c) : AppT B C a c := ⟨h.below.trans k.below, fun v l hl x => k.own v l hl (h.own v l hl x)⟩
theorem AppT.refl {B : Nat} {C : List UInt8} (w : World) : AppT B C w w := ⟨Below.refl _ w, fun _ _ _ x => x⟩
theorem AppT.of_new {B : Nat} {C : List UInt8} {w w' : World} (hB : B ≤ w.heap.size) (h : NewT w w') : AppT B C w w' := ⟨h.out.mono hB, fun _ _ _ x => x.keep h⟩
theorem AppT.drew {B : Nat} {C : List UInt8} (w : World) : AppT B C w w.drew := ⟨(Below.refl _ w).drew, fun _ _ _ x => x.of_block fun _ _ _ h _ => h⟩
/-- A row of its own that reads as a beginning of C. -/
def svAp (B : Nat) (C l : List UInt8) : SV (AppT B C) := ⟨fun v w => l <+: C ∧ OwnB w B v l, fun _ _ _ h hT => ⟨h.1, hT.own _ _ h.1 h.2⟩⟩
/-- It reads as l in an elder world. -/
def svEl (W : World) (M : List Nat) (l : List UInt8) {T : World → World → Prop} : SV T := ⟨fun v _ => RdV W M v l, fun _ _ _ h _ => h⟩
theorem run_appB_T {W : World} {B : Nat} {v u : Value} {l m C : List UInt8} {L : List Nat} (h : OwnB W B v l) (hr : RdV W L u m) (hC : l ++ m <+: C) (hn : l.length + m.length ≤ 1000000) (hB : B ≤ W.heap.size) (ty : TypeId) :
    ∃ v' w', (Builtin.append_ #[33, 33] ty #[v, u]).run Tryd.prog W = .ok v' w' ∧ OwnB w' B v' (l ++ m) ∧ AppT B C W w' := by
  obtain ⟨v', w', h1, h2, h3, _⟩ := run_appB_two h hr hn hB ty
  refine ⟨v', w', h1, h2, (Below.refl _ W).grown h3 hB (fun k hk => (h.lt k hk).1), fun v'' l'' hl'' h'' => ?_⟩
  obtain ⟨i0, hi, hz0, hz1, hz2⟩ := info_parts info5
  have hother : ∀ g, v''.ownBlock = some g → v.ownBlock ≠ some g → OwnB w' B v'' l'' := fun g e e2 => h''.of_block fun k o hk ho _ => by
    rw [e] at hk
    injection hk with hk
    subst hk
    rw [h3.block _ (h''.lt _ e).2 (fun e3 => e2 e3.symm)]
    exact ho
  rcases h''.2 with ⟨rfl, h0⟩ | ⟨g, cap2, cur2, rfl, hb2, hg2, hn2, hm2, hs2, hx2⟩
  · exact ⟨h''.1, .inl ⟨rfl, h0⟩⟩
  by_cases e : v.ownBlock = some g
  case neg => exact hother g rfl e
  rcases h.2 with ⟨rfl, h0⟩ | ⟨g', c, cur, rfl, hb, hg, hnc, hcm, hs, ht⟩
  · cases e
  · simp only [Value.ownBlock, Option.some.injEq] at e
    subst e
    rw [hg] at hg2
    injection hg2 with hg2
    injection hg2 with hg2
    subst hg2
    obtain ⟨A, cap, rfl, k1, k2, k3⟩ := hr
    by_cases hm0 : m = []
    · subst hm0
      cases A with
      | none =>
        simp [Builtin.append_, run_underlying Tryd.underlying33, sizeOf, typeInfo, hi, Builtin.lenOf, Builtin.firstCells, hnc, storeCells] at h1
        rw [← h1.2]; exact h''
      | some ad =>
        have hrun := run_append_room (P := Tryd.prog) W 33 ty 5 i0 Tryd.underlying33 hi g' l.length c cur hg ad 0 cap [] (by simp) (fun j u hj => by simp at hj) (fun u hu => by simp at hu) hnc (by rw [hs, hz1]; simp; omega)
        rw [show ([] : List UInt8).length = 0 from rfl] at h1
        rw [h1] at hrun
        injection hrun with _ ew
        subst ew
        refine ⟨h''.1, .inr ⟨g', cap2, _, rfl, hb2, setRow_heap W g' cur _ _ _ hg, hn2, hm2, ?_, ?_⟩⟩
        · simp; omega
        · simp only [List.append_nil, List.length_nil, Nat.add_zero, List.take_append_drop]
          exact hx2
    · cases A with
      | none =>
        obtain ⟨_, _, h5, _⟩ := k3 (List.length_pos_iff.2 hm0)
        cases h5
      | some ad =>
        have hcells : ∀ j u, (m.map fun b => Value.int .u8 (bN b))[j]? = some u → W.cell? (ad.add j) = some u := fun j u hj => by
          have hjl : j < m.length := by have := (List.getElem?_eq_some_iff.1 hj).1; simpa using this
          obtain ⟨b, o, hA, _, hc⟩ := k3 (by omega)
          cases hA
          rw [Addr.add_mid, hc j hjl, ← map_at m j hjl, hj]
        have hz3 : (m.map fun b => Value.int .u8 (bN b)).length = m.length * i0.size := by rw [hz1]; simp
        by_cases hroom : l.length + m.length ≤ c
        · have hrun := run_append_room (P := Tryd.prog) W 33 ty 5 i0 Tryd.underlying33 hi g' l.length c cur hg ad m.length cap _ hz3 hcells (fun u hu => by obtain ⟨b, _, rfl⟩ := List.mem_map.1 hu; rfl) hroom (by rw [hs, hz1]; simp; omega)
          rw [h1] at hrun
          injection hrun with _ ew
          subst ew
          refine ⟨h''.1, .inr ⟨g', cap2, _, rfl, hb2, setRow_heap W g' cur _ _ _ hg, hn2, hm2, ?_, ?_⟩⟩
          · simp only [List.size_toArray, List.length_append, List.length_take, List.length_drop, Array.length_toList, List.length_map, hz1]
            omega
          · rw [hz1]
            simp only [Nat.mul_one] at hx2 ht ⊢
            have hCl := hC.length_le
            have hl2 := hl''.length_le
            rw [List.length_append] at hCl
            have eC : l ++ m = C.take (l.length + m.length) := by rw [← List.length_append]; exact List.prefix_iff_eq_take.1 hC
            have el : l'' = C.take l''.length := List.prefix_iff_eq_take.1 hl''
            have hx3 : cur.toList.take l''.length = (C.map fun b => Value.int .u8 (bN b)).take l''.length := by rw [hx2, ← List.map_take, ← el]
            have hX3 : l''.length ≤ cur.toList.length := by
              have : l''.length ≤ cur.size := by omega
              simpa using this
            have e2 := app_same cur.toList _ (m.map fun b => Value.int .u8 (bN b)) (C.map fun b => Value.int .u8 (bN b)) l.length m.length l''.length rfl (by rw [ht]; simp) (by simp) (by rw [ht, ← List.map_append, eC, List.map_take]) hx3 hX3 (by simpa using hl2)
            simp only [List.length_map]
            rw [← hx2]
            exact e2
        · have hrun := run_append_grow (P := Tryd.prog) W 33 ty 5 i0 _ Tryd.underlying33 hi hz0 ⟨g', 0, none⟩ l.length c _ (by rw [hz1]; exact h.1) (World.ownsRow.cells h (g := g') rfl) ad m.length cap _ hz3 hcells (by omega) (by omega) (growslice_fits (by omega) (by rw [hz2]; omega))
          rw [h1] at hrun
          injection hrun with _ ew
          subst ew
          exact h''.keep (NewT.trans _ _ _ (NewT.drew W) (NewT.alloc _ _))
/-- An empty row that is new. -/
theorem ownB_empty (w : World) : OwnB (w.alloc (.cells #[] 5)) w.heap.size (.slice (some ⟨w.heap.size, 0, none⟩) 0 0) [] :=
  ownsRow_row (rowIs_box w 5 0 (fun _ => undef)) w.heap.size 0 (by omega) (by unfold maxLen; omega) (Nat.le_refl _)
theorem OwnB.mono {W : World} {B B' : Nat} {v : Value} {l : List UInt8} (h : OwnB W B v l) (hB : B' ≤ B) : OwnB W B' v l := by
  obtain ⟨h1, h2⟩ := h
  refine ⟨h1, ?_⟩
  rcases h2 with h2 | ⟨g, c, cur, hv, hb, r⟩
  · exact .inl h2
  · exact .inr ⟨g, c, cur, hv, Nat.le_trans hB hb, r⟩
section
variable {a : Act} {w : World} {o : Oper} {K : Act → World → Prop} {Q : Exit → Act → World → Prop} {x y : Operand} {B : Nat} {C : List UInt8}
/-- An empty slice that is new, with a row of its own. -/
theorem opr_bs0 (hB : B ≤ w.heap.size) (ho : o.op = .buildSlice 33 0 #[]) (h : ∀ v w', AppT B C w w' → (svAp B C []).pred v w' → K (a.put o.dst v) w') : o.wp Tryd.prog a w K Q := by
  obtain ⟨dst, op, type, pos, after, guard⟩ := o
  simp only at ho
  subst ho
  exact opr_val (s := Instr.buildSlice 33 0 #[]) (by simp [execOp]) (v := .slice (some ⟨w.heap.size, 0, none⟩) 0 0) (w' := w.alloc (.cells #[] 5)) (by simp [go_sem]) (h _ _ (AppT.of_new hB (NewT.alloc _ _)) ⟨List.nil_prefix, (ownB_empty w).mono hB⟩)
/-- An append onto a row of its own. -/
theorem opr_appB {l m : List UInt8} {M : List Nat} (hB : B ≤ w.heap.size) (hC : l ++ m <+: C) (hCl : C.length ≤ 1000000) (ho : o.op = .call { callee := .builtin .append, args := #[x, y], argTypes := #[33, 33] }) (hx : (svAp B C l).pred (a.eval x) w) (hy : RdV w M (a.eval y) m)
    (h : ∀ v w', AppT B C w w' → (svAp B C (l ++ m)).pred v w' → K (a.put o.dst v) w') : o.wp Tryd.prog a w K Q := by
  obtain ⟨v2, w2, hrun, hO, hT⟩ := run_appB_T hx.2 hy hC (by have := hC.length_le; rw [List.length_append] at this; omega) hB o.type
  exact opr_append ho rfl rfl hrun (h _ _ hT ⟨hC, hO⟩)
end
end Go.Proofs.YtbejolbknimmmaaDoor
/- Slices whose elements are one cell each (slices of slices, of numbers ..): rows of the call's own, appends onto them, piece by piece. No program is named here. -/
namespace Go.Proofs.YtbejolbknimmmaaDoor
open Go Go.RowKit
set_option maxRecDepth 8000
set_option linter.all false
/-- What the program says of a slice's type t and of its elements' e. -/
structure ValTy (P : Program) (t e : TypeId) (i : TypeInfo) (z : Value) : Prop where
  sl : P.underlying t = some (.slice e)
  info : P.info? e = some i
  zero : i.zero = some z
  size : i.size = 1
  cells : z.cells.size = 1
  bytes : i.bytes ≤ 64
/-- A slice that reads as the values vs; its row is outside of L. -/
def ValsAt (w : World) (L : List Nat) (v : Value) (vs : List Value) : Prop :=
  ∃ A cap, v = .slice A vs.length cap ∧ vs.length ≤ cap ∧ cap ≤ maxLen ∧ (0 < vs.length → ∃ b o, A = some ⟨b, o, none⟩ ∧ b ∉ L ∧ ∀ i x, vs[i]? = some x → w.cell? ⟨b, o + i, none⟩ = some x)
theorem ValsAt.keep {w w' : World} {L : List Nat} {v : Value} {vs : List Value} (h : ValsAt w L v vs) (hk : KeepBut L w w') : ValsAt w' L v vs := by
  obtain ⟨A, cap, hv, h1, h2, h3⟩ := h
  refine ⟨A, cap, hv, h1, h2, fun h0 => ?_⟩
  obtain ⟨b, o, hA, hb, hc⟩ := h3 h0
  exact ⟨b, o, hA, hb, fun i x hx => hk.cell hb (hc i x hx)⟩
theorem PartsAt.vals {w : World} {L : List Nat} {v : Value} {ps : List (Value × List UInt8)} (h : PartsAt w L v ps) : ValsAt w L v (ps.map (·.1)) := by
  obtain ⟨A, cap, hv, h1, h2, h3, _⟩ := h
  refine ⟨A, cap, by simpa using hv, by simpa using h1, h2, fun h0 => ?_⟩
  obtain ⟨b, o, hA, hb, hc⟩ := h3 (by simpa using h0)
  refine ⟨b, o, hA, hb, fun i x hx => ?_⟩
  rw [List.getElem?_map] at hx
  cases hp : ps[i]? with
  | none => rw [hp] at hx; cases hx
  | some y => rw [hp] at hx; injection hx with hx; subst hx; exact hc i y hp
/-- A row of the call's own, from block B on, whose elements are vs. -/
def OwnV (w : World) (B : Nat) (e : TypeId) (v : Value) (vs : List Value) : Prop := w.ownsRow B e 1 v vs.length vs
theorem OwnV.lt {w : World} {B : Nat} {e : TypeId} {v : Value} {vs : List Value} (h : OwnV w B e v vs) : ∀ k, v.ownBlock = some k → B ≤ k ∧ k < w.heap.size := World.ownsRow.lt h
theorem OwnV.of_block {W W' : World} {B : Nat} {e : TypeId} {v : Value} {l : List Value} (h : OwnV W B e v l) (hk : ∀ k o, v.ownBlock = some k → W.heap[k]? = some o → o.isCells = true → W'.heap[k]? = some o) : OwnV W' B e v l := by
  obtain ⟨h1, h2⟩ := h
  refine ⟨h1, ?_⟩
  rcases h2 with h2 | ⟨g, cap, cur, hv, hb, hg, r⟩
  · exact .inl h2
  · exact .inr ⟨g, cap, cur, hv, hb, hk g _ (by rw [hv]; rfl) hg rfl, r⟩
theorem OwnV.keep {W W' : World} {B : Nat} {e : TypeId} {v : Value} {l : List Value} (h : OwnV W B e v l) (hN : NewT W W') : OwnV W' B e v l :=
  h.of_block fun k o _ ho _ => by rw [hN.out.block k (Array.getElem?_eq_some_iff.1 ho).1]; exact ho
theorem OwnV.mono {W : World} {B B' : Nat} {e : TypeId} {v : Value} {l : List Value} (h : OwnV W B e v l) (hB : B' ≤ B) : OwnV W B' e v l := by
  obtain ⟨h1, h2⟩ := h
  refine ⟨h1, ?_⟩
  rcases h2 with h2 | ⟨g, c, cur, hv, hb, r⟩
  · exact .inl h2
  · exact .inr ⟨g, c, cur, hv, Nat.le_trans hB hb, r⟩
theorem ownV_nil (W : World) (B : Nat) (e : TypeId) : OwnV W B e (.slice none 0 0) [] := World.ownsRow_nil W B _ _
theorem ownV_empty (w : World) (e : TypeId) : OwnV (w.alloc (.cells #[] e)) w.heap.size e (.slice (some ⟨w.heap.size, 0, none⟩) 0 0) [] :=
  ownsRow_row (rowIs_box w e 0 (fun _ => undef)) w.heap.size 0 (by omega) (by unfold maxLen; omega) (Nat.le_refl _)
theorem OwnV.cap {W : World} {B : Nat} {e : TypeId} {v : Value} {l : List Value} (h : OwnV W B e v l) : ∃ A c, v = .slice A l.length c ∧ l.length ≤ c := by
  rcases h.2 with ⟨hv, h0⟩ | ⟨g, cap, cur, hv, _, _, hc, _⟩
  · exact ⟨none, 0, by rw [hv, h0], by omega⟩
  · exact ⟨_, cap, hv, hc⟩
/-- What an own row reads as. -/
theorem OwnV.at' {w : World} {B : Nat} {e : TypeId} {v : Value} {vs : List Value} (h : OwnV w B e v vs) {L : List Nat} (hL : ∀ k ∈ L, k < B) : ValsAt w L v vs := by
  rcases h.2 with ⟨hv, h0⟩ | ⟨g, cap, cur, hv, hb, hg, hc, hm, hs, hx⟩
  · exact ⟨none, 0, by rw [hv, h0], by omega, by unfold maxLen; omega, fun h1 => by omega⟩
  · refine ⟨_, cap, hv, hc, hm, fun _ => ⟨g, 0, rfl, fun hm' => by have := hL g hm'; omega, fun i x hi => ?_⟩⟩
    have hil : i < vs.length := (List.getElem?_eq_some_iff.1 hi).1
    have hcur : cur[i]? = some x := by
      have := congrArg (·[i]?) hx
      rw [Nat.mul_one] at this
      simp only [List.getElem?_take, if_pos hil] at this
      rw [← Array.getElem?_toList, this, hi]
    rw [Nat.zero_add]
    unfold World.cell?
    simp [hg, hcur]
/-- A step of a region that puts C, piece by piece, into rows of its own from block B on. -/
structure AppV (B : Nat) (e : TypeId) (C : List Value) (w w' : World) : Prop where
  below : Below B w w'
  own : ∀ v l, l <+: C → OwnV w B e v l → OwnV w' B e v l
theorem AppV.trans {B : Nat} {e : TypeId} {C : List Value} (a b c : World) (h : AppV B e C a b) (k : AppV B e C b c) : AppV B e C a c := ⟨h.below.trans k.below, fun v l hl x => k.own v l hl (h.own v l hl x)⟩
theorem AppV.refl {B : Nat} {e : TypeId} {C : List Value} (w : World) : AppV B e C w w := ⟨Below.refl _ w, fun _ _ _ x => x⟩
theorem AppV.of_new {B : Nat} {e : TypeId} {C : List Value} {w w' : World} (hB : B ≤ w.heap.size) (h : NewT w w') : AppV B e C w w' := ⟨h.out.mono hB, fun _ _ _ x => x.keep h⟩
theorem AppV.drew {B : Nat} {e : TypeId} {C : List Value} (w : World) : AppV B e C w w.drew := ⟨(Below.refl _ w).drew, fun _ _ _ x => x.of_block fun _ _ _ h _ => h⟩
theorem run_appV_T {P : Program} {t e ty : TypeId} {i0 : TypeInfo} {z : Value} (Y : ValTy P t e i0 z) {W : World} {B : Nat} {v u : Value} {l m C : List Value} {L : List Nat} (h : OwnV W B e v l) (hr : ValsAt W L u m) (h1c : ∀ x ∈ m, x.oneCell' = true) (hC : l ++ m <+: C) (hn : l.length + m.length ≤ 1000000) (hB : B ≤ W.heap.size) :
    ∃ v' w', (Builtin.append_ #[t, t] ty #[v, u]).run P W = .ok v' w' ∧ OwnV w' B e v' (l ++ m) ∧ AppV B e C W w' ∧ W.grownBy w' v.ownBlock := by
  obtain ⟨A, cap, rfl, k1, k2, k3⟩ := hr
  cases A with
  | none =>
    have h0 : m = [] := by
      cases m with
      | nil => rfl
      | cons b l => obtain ⟨_, _, h, _⟩ := k3 (by simp); cases h
    subst h0
    refine ⟨v, W, ?_, by simpa using h, AppV.refl W, World.grownBy.refl W _⟩
    rcases h.2 with ⟨rfl, h0⟩ | ⟨g, cap', cur, rfl, _, _, hnc, _⟩
    · simp [Builtin.append_, run_underlying Y.sl, sizeOf, typeInfo, Y.info, Builtin.lenOf, Builtin.firstCells]
    · simp [Builtin.append_, run_underlying Y.sl, sizeOf, typeInfo, Y.info, Builtin.lenOf, Builtin.firstCells, hnc, storeCells]
  | some ad =>
    have hcells : ∀ j u, m[j]? = some u → W.cell? (ad.add j) = some u := fun j u hj => by
      obtain ⟨b, o, hA, _, hc⟩ := k3 (by have := (List.getElem?_eq_some_iff.1 hj).1; omega)
      cases hA
      rw [Addr.add_mid]; exact hc j u hj
    have hl1 : l.length * i0.bytes ≤ 64000000 := Nat.le_trans (Nat.mul_le_mul (by omega : l.length ≤ 1000000) Y.bytes) (by omega)
    have hm1 : (l.length + m.length) * i0.bytes ≤ 64000000 := Nat.le_trans (Nat.mul_le_mul hn Y.bytes) (by omega)
    have hm2 : m.length * i0.bytes ≤ 64000000 := Nat.le_trans (Nat.mul_le_mul (by omega : m.length ≤ 1000000) Y.bytes) (by omega)
    obtain ⟨v', w', hrun, ho, hg, _⟩ := run_append_own (P := P) W B t ty e i0 z 1 i0.bytes Y.sl Y.info Y.zero Y.size rfl Y.cells Nat.one_pos v l.length l h ad m.length cap m (Nat.mul_one _).symm hcells h1c (by unfold maxLen; omega) (by omega) hB
    have ho' : OwnV w' B e v' (l ++ m) := by unfold OwnV; rw [List.length_append]; exact ho
    refine ⟨v', w', hrun, ho', ⟨(Below.refl _ W).grown hg hB (fun k hk => (h.lt k hk).1), fun v'' l'' hl'' h'' => ?_⟩, hg⟩
    have hother : ∀ g, v''.ownBlock = some g → v.ownBlock ≠ some g → OwnV w' B e v'' l'' := fun g ee e2 => h''.of_block fun k o hk hoo _ => by
      rw [ee] at hk
      injection hk with hk
      subst hk
      rw [hg.block _ (h''.lt _ ee).2 (fun e3 => e2 e3.symm)]
      exact hoo
    rcases h''.2 with ⟨rfl, h0⟩ | ⟨g, cap2, cur2, rfl, hb2, hg2, hn2, hm2', hs2, hx2⟩
    · exact ⟨h''.1, .inl ⟨rfl, h0⟩⟩
    by_cases ev : v.ownBlock = some g
    case neg => exact hother g rfl ev
    rcases h.2 with ⟨rfl, h0⟩ | ⟨g', c, cur, rfl, hb, hgg, hnc, hcm, hs, ht⟩
    · cases ev
    · simp only [Value.ownBlock, Option.some.injEq] at ev
      subst ev
      rw [hgg] at hg2
      injection hg2 with hg2
      injection hg2 with hg2
      subst hg2
      by_cases hroom : l.length + m.length ≤ c
      · have hrun2 := run_append_room (P := P) W t ty e i0 Y.sl Y.info g' l.length c cur hgg ad m.length cap m (by rw [Y.size]; simp) hcells h1c hroom (by rw [hs, Y.size]; omega)
        rw [hrun] at hrun2
        injection hrun2 with _ ew
        subst ew
        refine ⟨h''.1, .inr ⟨g', cap2, _, rfl, hb2, setRow_heap W g' cur _ _ _ hgg, hn2, hm2', ?_, ?_⟩⟩
        · simp only [List.size_toArray, List.length_append, List.length_take, List.length_drop, Array.length_toList, Y.size]
          omega
        · rw [Y.size]
          simp only [Nat.mul_one] at hx2 ht ⊢
          have hCl := hC.length_le
          have hl2 := hl''.length_le
          rw [List.length_append] at hCl
          have eC : l ++ m = C.take (l.length + m.length) := by rw [← List.length_append]; exact List.prefix_iff_eq_take.1 hC
          have el : l'' = C.take l''.length := List.prefix_iff_eq_take.1 hl''
          have hX3 : l''.length ≤ cur.toList.length := by
            have : l''.length ≤ cur.size := by omega
            simpa using this
          have e2 := app_same cur.toList l m C l.length m.length l''.length ht rfl rfl eC (by rw [hx2]; exact el) hX3 hl2
          rw [hx2] at e2
          exact e2
      · have hrun2 := run_append_grow (P := P) W t ty e i0 z Y.sl Y.info Y.zero ⟨g', 0, none⟩ l.length c l (by rw [Y.size]; simp) (World.ownsRow.cells h (g := g') rfl) ad m.length cap m (by rw [Y.size]; simp) hcells (by omega) (by omega) (growslice_fits (by omega) (by omega))
        rw [hrun] at hrun2
        injection hrun2 with _ ew
        subst ew
        exact h''.keep (NewT.trans _ _ _ (NewT.drew W) (NewT.alloc _ _))
end Go.Proofs.YtbejolbknimmmaaDoor
/- A disk in memory: its block, the row of its bytes; steps that write these alone. -/
namespace Go.Proofs.YtbejolbknimmmaaDoor
open Go Go.RowKit
set_option maxRecDepth 8000
set_option linter.all false
/-- A disk's three cells: its room, its bytes, how many of them last. -/
def dkF (room : Nat) (v : Value) (n : Nat) (i : Nat) : Value := if i = 0 then .int .i64 (room : Int) else if i = 1 then v else .int .i64 (n : Int)
/-- Block g is a disk: its bytes are S, of which n last, in a row of its own behind g. -/
structure DiskAt (w : World) (g : Nat) (v : Value) (room : Nat) (S : List UInt8) (n : Nat) : Prop where
  row : w.rowIs g 70 3 (dkF room v n)
  own : OwnB w (g + 1) v S
  last : n ≤ S.length
  fits : S.length ≤ room
  room1 : 1 ≤ room
  room2 : room ≤ 65536
theorem DiskAt.lt {w : World} {g : Nat} {v : Value} {room : Nat} {S : List UInt8} {n : Nat} (h : DiskAt w g v room S n) : g < w.heap.size := h.row.lt
theorem DiskAt.new {w w' : World} {g : Nat} {v : Value} {room : Nat} {S : List UInt8} {n : Nat} (h : DiskAt w g v room S n) (hN : NewT w w') : DiskAt w' g v room S n :=
  ⟨hN.row h.row, h.own.keep hN, h.last, h.fits, h.room1, h.room2⟩
theorem DiskAt.c0 {w : World} {g : Nat} {v : Value} {room : Nat} {S : List UInt8} {n : Nat} (h : DiskAt w g v room S n) : w.cell? ⟨g, 0, none⟩ = some (.int .i64 (room : Int)) := h.row.cell (i := 0) (by omega)
theorem DiskAt.c1 {w : World} {g : Nat} {v : Value} {room : Nat} {S : List UInt8} {n : Nat} (h : DiskAt w g v room S n) : w.cell? ⟨g, 1, none⟩ = some v := h.row.cell (i := 1) (by omega)
theorem DiskAt.c2 {w : World} {g : Nat} {v : Value} {room : Nat} {S : List UInt8} {n : Nat} (h : DiskAt w g v room S n) : w.cell? ⟨g, 2, none⟩ = some (.int .i64 (n : Int)) := h.row.cell (i := 2) (by omega)
/-- A step of the disk g, whose bytes lie in v, and behind it in v': its block, their row, and new memory alone are written. -/
structure DStep (g : Nat) (v : Value) (w w' : World) (v' : Value) : Prop where
  below : Below g w w'
  keep : KeepBut (g :: v.ownBlock.toList) w w'
  own : v'.ownBlock = v.ownBlock ∨ ∃ k, v'.ownBlock = some k ∧ w.heap.size ≤ k
theorem lt_of_some {w : World} {k : Nat} {o : Obj} (h : w.heap[k]? = some o) : k < w.heap.size := (Array.getElem?_eq_some_iff.1 h).1
theorem own_apart {w : World} {g : Nat} {v v' : Value} {k : Nat} (hk : k < w.heap.size) (ho : v'.ownBlock = v.ownBlock ∨ ∃ k, v'.ownBlock = some k ∧ w.heap.size ≤ k) (h : k ∉ g :: v.ownBlock.toList) : k ∉ g :: v'.ownBlock.toList := by
  rcases ho with ho | ⟨k', ho, hk'⟩
  · rw [ho]; exact h
  · rw [ho]; simp at h ⊢; exact ⟨h.1, by omega⟩
theorem DStep.trans {g : Nat} {v v' v'' : Value} {a b c : World} (h : DStep g v a b v') (k : DStep g v' b c v'') : DStep g v a c v'' := by
  refine ⟨h.below.trans k.below, ⟨Nat.le_trans h.keep.1 k.keep.1, fun i o hi ho hc => k.keep.2 i o (own_apart (lt_of_some ho) h.own hi) (h.keep.2 i o hi ho hc) hc⟩, ?_⟩
  rcases k.own with k1 | ⟨j, k1, k2⟩
  · rcases h.own with h1 | ⟨i, h1, h2⟩
    · exact .inl (k1.trans h1)
    · exact .inr ⟨i, k1.trans h1, h2⟩
  · exact .inr ⟨j, k1, Nat.le_trans h.below.size k2⟩
theorem DStep.new {g : Nat} {v : Value} {w w' : World} (hg : g < w.heap.size) (h : NewT w w') : DStep g v w w' v := ⟨h.out.mono (by omega), KeepBut.below h, .inl rfl⟩
theorem DStep.refl {g : Nat} {v : Value} (w : World) : DStep g v w w v := ⟨Below.refl _ _, KeepBut.refl _ _, .inl rfl⟩
theorem DStep.of_rt {g : Nat} {v v' : Value} {w w' : World} (h : RT g w w') (ho : v'.ownBlock = v.ownBlock) : DStep g v w w' v' := ⟨h.below, h.keep.more (by simp), .inl ho⟩
/-- What lies ahead of the disk stays. -/
theorem DStep.newT {W : World} {g : Nat} {v v' : Value} {w w' : World} (hW : NewT W w) (hg : W.heap.size ≤ g) (h : DStep g v w w' v') : NewT W w' := NewT.of (hW.out.trans (h.below.mono hg))
/-- What lies beside the disk stays, and lies beside it. -/
theorem DStep.rd {g : Nat} {v v' : Value} {w w' : World} (h : DStep g v w w' v') {u : Value} {l : List UInt8} (hr : RdV w (g :: v.ownBlock.toList) u l) : RdV w' (g :: v'.ownBlock.toList) u l := by
  have h1 : RdV w (g :: v'.ownBlock.toList) u l := hr.more fun k hk hn => own_apart hk h.own hn
  obtain ⟨A, cap, hv, h2, h3, h4⟩ := hr
  obtain ⟨A', cap', hv', _, _, h4'⟩ := h1
  refine ⟨A, cap, hv, h2, h3, fun h0 => ?_⟩
  obtain ⟨b, o, hA, hb, hc⟩ := h4 h0
  refine ⟨b, o, hA, ?_, fun i hi => h.keep.cell hb (hc i hi)⟩
  exact own_apart (World.block_lt_of_cell? _ _ (hc 0 h0)) h.own hb
theorem DStep.row {g : Nat} {v v' : Value} {w w' : World} (h : DStep g v w w' v') {b n : Nat} {t : TypeId} {f : Nat → Value} (hb : b ∉ g :: v.ownBlock.toList) (hr : w.rowIs b t n f) : w'.rowIs b t n f := h.keep.row hb hr
theorem DStep.apart {g : Nat} {v v' : Value} {w w' : World} (h : DStep g v w w' v') {b : Nat} (hlt : b < w.heap.size) (hb : b ∉ g :: v.ownBlock.toList) : b ∉ g :: v'.ownBlock.toList := own_apart hlt h.own hb
/-- Another step beside the disk. -/
theorem DiskAt.keep {w w' : World} {g : Nat} {v : Value} {room : Nat} {S : List UInt8} {n : Nat} (h : DiskAt w g v room S n) {L : List Nat} (hK : KeepBut L w w') (hg : g ∉ L) (hv : ∀ k, v.ownBlock = some k → k ∉ L) : DiskAt w' g v room S n :=
  ⟨hK.row hg h.row, h.own.of_block fun k o hk ho hc => hK.2 k o (hv k hk) ho hc, h.last, h.fits, h.room1, h.room2⟩
/-- How many last behind a crash. -/
def crashN (keep : Int) (n len : Nat) : Nat := n + min keep.toNat (len - n)
theorem crashN_le (keep : Int) (n len : Nat) (h : n ≤ len) : crashN keep n len ≤ len := by unfold crashN; omega
theorem crashN_ge (keep : Int) (n len : Nat) : n ≤ crashN keep n len := by unfold crashN; omega

set_option maxHeartbeats 400000 in
theorem Lasts_c (g : Nat) (v : Value) (room : Nat) (S : List UInt8) (n : Nat) (w : World) (h : DiskAt w g v room S n) : Cv 29 #[.pointer (some ⟨g, 0, none⟩)] w (.eq (.int .i64 (n : Int))) := by
  have c2 := h.c2
  clear h
  unfold Cv
  go_enter Tryd.func29, Tryd.ntmps29
  go_wp2
  go_ret
  exact ⟨_, rfl, NewT.refl _, rfl⟩
set_option maxHeartbeats 400000 in
theorem Lasts_nil (w : World) : Cv 29 #[.pointer none] w (.eq (.int .i64 0)) := by
  unfold Cv
  go_enter Tryd.func29, Tryd.ntmps29
  go_wp2
  go_ret
  exact ⟨_, rfl, NewT.refl _, rfl⟩
set_option maxHeartbeats 400000 in
theorem Room_nil (w : World) : Cv 42 #[.pointer none] w (.eq (.int .i64 0)) := by
  unfold Cv
  go_enter Tryd.func42, Tryd.ntmps42
  go_wp2
  go_ret
  exact ⟨_, rfl, NewT.refl _, rfl⟩
set_option maxHeartbeats 400000 in
theorem Bytes_nil (w : World) : Cv 25 #[.pointer none] w (.eq (.slice none 0 0)) := by
  unfold Cv
  go_enter Tryd.func25, Tryd.ntmps25
  go_wp2
  go_ret
  exact ⟨_, rfl, NewT.refl _, rfl⟩
set_option maxHeartbeats 400000 in
theorem Write_nil (u : Value) (w : World) : Cv 27 #[.pointer none, u] w (.eq (.int .i64 1)) := by
  unfold Cv
  go_enter Tryd.func27, Tryd.ntmps27
  go_wp2
  go_ret
  exact ⟨_, rfl, NewT.refl _, rfl⟩
set_option maxHeartbeats 400000 in
theorem Cut_nil (k : Int) (w : World) : Cv 32 #[.pointer none, .int .i64 k] w (.eq (.int .i64 1)) := by
  unfold Cv
  go_enter Tryd.func32, Tryd.ntmps32
  go_wp2
  go_ret
  exact ⟨_, rfl, NewT.refl _, rfl⟩
set_option maxHeartbeats 400000 in
theorem Sync_nil (w : World) : Cv 30 #[.pointer none] w (.eq (.tuple #[])) := by
  unfold Cv
  go_enter Tryd.func30, Tryd.ntmps30
  go_wp2
  go_end0
  exact ⟨_, rfl, NewT.refl _, rfl⟩
set_option maxHeartbeats 400000 in
theorem Crash_nil (k : Int) (w : World) : Cv 18 #[.pointer none, .int .i64 k] w (.eq (.tuple #[])) := by
  unfold Cv
  go_enter Tryd.func18, Tryd.ntmps18
  go_wp2
  go_end0
  exact ⟨_, rfl, NewT.refl _, rfl⟩
set_option maxHeartbeats 400000 in
theorem New_none (room : Int) (h : room < 1 ∨ 65536 < room) (w : World) : Cv 12 #[.int .i64 room] w (.eq (.pointer none)) := by
  unfold Cv
  by_cases h1 : room < 1
  · clear h
    go_enter Tryd.func12, Tryd.ntmps12
    go_wp2
    go_ret
    exact ⟨_, rfl, NewT.refl _, rfl⟩
  · have h2 : 65536 < room := by omega
    clear h
    go_enter Tryd.func12, Tryd.ntmps12
    go_wp2
    go_ret
    exact ⟨_, rfl, NewT.refl _, rfl⟩
end Go.Proofs.YtbejolbknimmmaaDoor
/- What the calls of a disk do: New, Room, leave, Sync, Crash, Cut. -/
namespace Go.Proofs.YtbejolbknimmmaaDoor
open Go Go.RowKit
set_option maxRecDepth 8000
set_option linter.all false
set_option maxHeartbeats 400000 in
theorem New_c (room : Nat) (h1 : 1 ≤ room) (h2 : room ≤ 65536) (w : World) : Calls Tryd.prog 12 #[.int .i64 (room : Int)] w fun e w' => e = .returned (.pointer (some ⟨w.heap.size, 0, none⟩)) ∧ NewT w w' ∧ DiskAt w' w.heap.size (.slice none 0 0) room [] 0 := by
  have i1 : ¬ (room : Int) < 1 := by omega
  have i2 : ¬ 65536 < (room : Int) := by omega
  go_enter Tryd.func12, Tryd.ntmps12
  go_wp2
  go_ret
  refine ⟨rfl, NewT.alloc _ _, (rowIs_box w 70 3 (dkF room (.slice none 0 0) 0)), ownB_nil _ _, by simp, by simp, h1, h2⟩
set_option maxHeartbeats 400000 in
theorem Room_c (g : Nat) (v : Value) (room : Nat) (S : List UInt8) (n : Nat) (w : World) (h : DiskAt w g v room S n) : Cv 42 #[.pointer (some ⟨g, 0, none⟩)] w (.eq (.int .i64 ((room - S.length : Nat) : Int))) := by
  have c0 := h.c0
  have c1 := h.c1
  have e : (room : Int) - (S.length : Int) = ((room - S.length : Nat) : Int) := by have := h.fits; omega
  have b1 : room ≤ 65536 := h.room2
  obtain ⟨A, c, rfl, _⟩ := h.own.cap
  clear h
  generalize S.length = m at *
  have hwr : IntKind.i64.wrap ((room - m : Nat) : Int) = ((room - m : Nat) : Int) := IntWalk.i64_in _ (by omega)
  unfold Cv
  go_enter Tryd.func42, Tryd.ntmps42
  go_wp2
  refine wp_region_still_lit (by kernel_rfl) (by kernel_rfl) ?_
  repeat (refine wpStill_step (fun K hK => ?_); go_simp; refine hK _ ?_; clear hK K)
  refine wpStill_nil ?_
  go_wp2
  go_ret
  exact ⟨_, rfl, NewT.drew _, (by first | rfl | (rw [hwr]; rfl))⟩
set_option maxHeartbeats 400000 in
theorem leave_c (g : Nat) (v : Value) (room : Nat) (S : List UInt8) (n k : Nat) (w : World) (h : DiskAt w g v room S n) (hk : k ≤ S.length) : Calls Tryd.prog 39 #[.pointer (some ⟨g, 0, none⟩), .int .i64 (k : Int)] w fun e w' => e = .returned (.tuple #[]) ∧ ∃ v', DStep g v w w' v' ∧ DiskAt w' g v' room (S.take k) k := by
  have f1 := h.row.frozen 1
  have f2 := h.row.frozen 2
  have c1 := h.c1
  have c2 := h.c2
  obtain ⟨A, c, rfl, hc⟩ := h.own.cap
  have hs := slice_to A S.length c k (by omega)
  have H := Lib.hid h
  have Hk := Lib.hid hk
  clear h hk hc
  generalize hm : S.length = m at *
  have Hm := Lib.hid hm
  clear hm
  go_enter Tryd.func39, Tryd.ntmps39
  go_wp2
  go_end0
  have h := H.out
  have hk := Hk.out
  have hm := Hm.out
  refine ⟨rfl, .slice A k c, DStep.of_rt (RT.trans _ _ _ (RT.setCell w 1 _) (RT.setCell _ 2 _)) (by cases A <;> rfl), ?_, ?_, ?_, ?_, h.room1, h.room2⟩
  · exact ((h.row.set 1 _).set 2 _).congr fun i hi => by
      have : i = 0 ∨ i = 1 ∨ i = 2 := by omega
      rcases this with rfl | rfl | rfl <;> simp [dkF]
  · refine (h.own.take (k := k) (by omega)).of_block fun j o hj ho hc' => ?_
    have hj' : (Value.slice A m c).ownBlock = some j := by cases A <;> exact hj
    have := (h.own.lt j hj').1
    exact (RT.trans _ _ _ (RT.setCell (R := g) w 1 _) (RT.setCell _ 2 _)).keep.2 j o (by simp; omega) ho hc'
  · rw [List.length_take]; omega
  · rw [List.length_take]; have := h.fits; omega
set_option maxHeartbeats 400000 in
theorem Sync_c (g : Nat) (v : Value) (room : Nat) (S : List UInt8) (n : Nat) (w : World) (h : DiskAt w g v room S n) : Calls Tryd.prog 30 #[.pointer (some ⟨g, 0, none⟩)] w fun e w' => e = .returned (.tuple #[]) ∧ ∃ v', DStep g v w w' v' ∧ DiskAt w' g v' room S S.length := by
  have c1 := h.c1
  have H := Lib.hid h
  obtain ⟨A, c, rfl, _⟩ := h.own.cap
  clear h
  go_enter Tryd.func30, Tryd.ntmps30
  go_wp2_with (go_at_call 39; refine (leave_c g _ room S n S.length w H.out (Nat.le_refl _)).mono ?_; rintro _ w' ⟨rfl, v', hD, hA⟩)
  go_end0
  rw [List.take_length] at hA
  exact ⟨rfl, v', hD, hA⟩
set_option maxHeartbeats 1000000 in
theorem Crash_c (g : Nat) (v : Value) (room : Nat) (S : List UInt8) (n : Nat) (keep : Int) (w : World) (h : DiskAt w g v room S n) : Calls Tryd.prog 18 #[.pointer (some ⟨g, 0, none⟩), .int .i64 keep] w fun e w' => e = .returned (.tuple #[]) ∧ ∃ v', DStep g v w w' v' ∧ DiskAt w' g v' room (S.take (crashN keep n S.length)) (crashN keep n S.length) := by
  have hd := h.new (NewT.drew w)
  have hl := h.last
  have hr := h.fits
  have hr2 := h.room2
  have hgl := h.lt
  have H := Lib.hid hd
  have c1 := h.c1
  have c2 := h.c2
  obtain ⟨A, c, rfl, _⟩ := h.own.cap
  clear h hd
  have hC := crashN_le keep n S.length hl
  have HC := Lib.hid (show n + min keep.toNat (S.length - n) = crashN keep n S.length from rfl)
  generalize hk : crashN keep n S.length = k at *
  clear hk
  generalize hm : S.length = m at *
  have Hm := Lib.hid hm
  clear hm
  have e : (m : Int) - (n : Int) = ((m - n : Nat) : Int) := by omega
  have hwr : IntKind.i64.wrap ((m - n : Nat) : Int) = ((m - n : Nat) : Int) := IntWalk.i64_in _ (by omega)
  go_enter Tryd.func18, Tryd.ntmps18
  go_wp2
  refine wp_region_still_lit (by kernel_rfl) (by kernel_rfl) ?_
  repeat (refine wpStill_step (fun K hK => ?_); go_simp; refine hK _ ?_; clear hK K)
  refine wpStill_nil ?_
  have e2 : ((n : Int) + if ((m - n : Nat) : Int) < if keep < 0 then 0 else keep then ((m - n : Nat) : Int) else if keep < 0 then 0 else keep) = (k : Int) := by
    have h0 := HC.out
    by_cases h1 : keep < 0
    · rw [if_pos h1, if_neg (by omega)]; omega
    · rw [if_neg h1]
      by_cases h2 : ((m - n : Nat) : Int) < keep
      · rw [if_pos h2]; omega
      · rw [if_neg h2]; omega
  have E2 := Lib.hid e2
  clear e2
  go_wp2_with (go_at_call 39; rw [E2.out]; refine (leave_c g _ room S n k _ H.out (by rw [Hm.out]; exact hC)).mono ?_; rintro _ w' ⟨rfl, v', hD, hA⟩)
  all_goals
    go_end0
    exact ⟨rfl, v', DStep.trans (DStep.new hgl (NewT.drew w)) hD, hA⟩
set_option maxHeartbeats 1000000 in
theorem Cut_bad (g : Nat) (v : Value) (room : Nat) (S : List UInt8) (n : Nat) (k : Int) (w : World) (h : DiskAt w g v room S n) (hk : k < 0 ∨ (S.length : Int) < k) : Cv 32 #[.pointer (some ⟨g, 0, none⟩), .int .i64 k] w (.eq (.int .i64 1)) := by
  have c1 := h.c1
  obtain ⟨A, c, rfl, _⟩ := h.own.cap
  clear h
  generalize S.length = m at *
  unfold Cv
  by_cases h1 : k < 0
  · clear hk
    go_enter Tryd.func32, Tryd.ntmps32
    go_wp2
    go_ret
    exact ⟨_, rfl, NewT.refl _, rfl⟩
  · have h2 : (m : Int) < k := by omega
    clear hk
    go_enter Tryd.func32, Tryd.ntmps32
    go_wp2
    go_ret
    exact ⟨_, rfl, NewT.refl _, rfl⟩
set_option maxHeartbeats 1000000 in
theorem Cut_ok (g : Nat) (v : Value) (room : Nat) (S : List UInt8) (n k : Nat) (w : World) (h : DiskAt w g v room S n) (hk : k ≤ S.length) : Calls Tryd.prog 32 #[.pointer (some ⟨g, 0, none⟩), .int .i64 (k : Int)] w fun e w' => e = .returned (.int .i64 0) ∧ ∃ v', DStep g v w w' v' ∧ DiskAt w' g v' room (S.take k) k := by
  have c1 := h.c1
  have H := Lib.hid h
  have Hk := Lib.hid hk
  obtain ⟨A, c, rfl, _⟩ := h.own.cap
  clear h
  have i1 : ¬ (k : Int) < 0 := by omega
  have i2 : ¬ (S.length : Int) < (k : Int) := by omega
  clear hk
  go_enter Tryd.func32, Tryd.ntmps32
  go_wp2_with (go_at_call 39; refine (leave_c g _ room S n k _ H.out Hk.out).mono ?_; rintro _ w' ⟨rfl, v', hD, hA⟩)
  go_ret
  exact ⟨rfl, v', hD, hA⟩
end Go.Proofs.YtbejolbknimmmaaDoor
/- What the calls of a disk do: Bytes, Write. -/
namespace Go.Proofs.YtbejolbknimmmaaDoor
open Go Go.RowKit
set_option maxRecDepth 8000
set_option linter.all false
/-- It reads as l, in a row that is new since block B, and that may be written. -/
def FreshB (B : Nat) (w : World) (v : Value) (l : List UInt8) : Prop :=
  (v = .slice none 0 0 ∧ l = []) ∨ ∃ g c N f, v = .slice (some ⟨g, 0, none⟩) l.length c ∧ l.length ≤ c ∧ c ≤ maxLen ∧ B ≤ g ∧ w.rowIs g 5 N f ∧ l.length ≤ N ∧ ∀ i, i < l.length → f i = .int .u8 (bN (bAt l i))
theorem FreshB.new {B : Nat} {w w' : World} {v : Value} {l : List UInt8} (h : FreshB B w v l) (hN : NewT w w') : FreshB B w' v l := by
  rcases h with h | ⟨g, c, N, f, h1, h2, h3, h4, h5, h6⟩
  · exact .inl h
  · exact .inr ⟨g, c, N, f, h1, h2, h3, h4, hN.row h5, h6⟩
theorem FreshB.rdL {B : Nat} {w : World} {v : Value} {l : List UInt8} (h : FreshB B w v l) {L : List Nat} (hL : ∀ k ∈ L, k < B) : RdV w L v l := by
  rcases h with ⟨rfl, rfl⟩ | ⟨g, c, N, f, rfl, h2, h3, h4, h5, h6, h7⟩
  · exact rdV_nil _ _
  · exact ⟨_, c, rfl, h2, h3, fun _ => ⟨g, 0, rfl, fun hm => by have := hL g hm; omega, fun i hi => by rw [Nat.zero_add, h5.cell (by omega), h7 i hi]⟩⟩
theorem FreshB.rd {B : Nat} {w : World} {v : Value} {l : List UInt8} (h : FreshB B w v l) : RdV w [] v l := h.rdL (by simp)
def svFr (B : Nat) (l : List UInt8) : SV NewT := ⟨fun v w => FreshB B w v l, fun _ _ _ h hT => h.new hT⟩
theorem OwnB.fresh {W : World} {B : Nat} {v : Value} {l : List UInt8} (h : OwnB W B v l) : FreshB B W v l := by
  rcases h.2 with ⟨rfl, h0⟩ | ⟨g, cap, cur, rfl, hb, hg, hc, hm, hs, hx⟩
  · exact .inl ⟨rfl, List.eq_nil_of_length_eq_zero h0⟩
  · refine .inr ⟨g, cap, cap, fun i => cur[i]?.getD undef, rfl, hc, hm, hb, ⟨cur, hg, by omega, fun i hi => ?_⟩, hc, fun i hi => ?_⟩
    · show cur[i]? = some (cur[i]?.getD undef)
      rw [Array.getElem?_eq_getElem (by omega)]; rfl
    · have := congrArg (·[i]?) hx
      rw [Nat.mul_one] at this
      simp only [List.getElem?_take, if_pos hi] at this
      rw [map_at l i hi] at this
      show cur[i]?.getD undef = _
      rw [← Array.getElem?_toList, this]; rfl
/-- 'b[:n:n]' of bytes that are new. -/
theorem FreshB.cut {B : Nat} {w : World} {A : Option Addr} {n c : Nat} {l : List UInt8} (h : FreshB B w (.slice A n c) l) : FreshB B w (.slice A n n) l := by
  rcases h with ⟨h1, h2⟩ | ⟨g, c, N, f, h1, h2, h3, h4⟩
  · cases h1; exact .inl ⟨rfl, h2⟩
  · cases h1; exact .inr ⟨g, l.length, N, f, rfl, Nat.le_refl _, by omega, h4⟩
theorem slice_to3 (A : Option Addr) (n cap m : Nat) (hm : m ≤ cap) (w : World) : (Instr.slice 33 (.slice A n cap) none (some (.int .i64 (m : Int))) (some (.int .i64 (m : Int)))).run Tryd.prog w = .ok (.slice A m m) w := by
  have hsz : (sizeOf 5).run Tryd.prog w = .ok 1 w := by
    obtain ⟨i0, hi, _, hz1, _⟩ := info_parts info5
    simp [sizeOf, typeInfo, hi, hz1]
  cases A with
  | none => simp [Instr.slice, run_underlying Tryd.underlying33, Instr.sliceBounds, Instr.sliceBound, asIntOf, hm, hsz]
  | some a =>
    have : a.add 0 = a := by rcases a with ⟨b, o, p⟩; cases p <;> rfl
    simp [Instr.slice, run_underlying Tryd.underlying33, Instr.sliceBounds, Instr.sliceBound, asIntOf, hm, hsz, this]
set_option maxHeartbeats 400000 in
theorem Clone_own (v : Value) (l : List UInt8) (L : List Nat) (w : World) (h : RdV w L v l) (hl : l.length ≤ 1000000) : Cv 41 #[v] w (svOB w.heap.size l) := by
  unfold Cv
  have H := Lib.hid h
  obtain ⟨A, cap, rfl, h1, h2, h3⟩ := h
  obtain ⟨i0, hi, hz0, hz1, hz2⟩ := info_parts info5
  have hq : ∀ (w : World) (a : Option Addr) (n c n' c' : Nat), (binOp .eql 33 (.slice a n c) (.slice none n' c')).run Tryd.prog w = .ok (.bool a.isNone) w := fun w a n c n' c' => Lib.run_eql_slice_nil w _ _ a n c n' c' Tryd.underlying33
  cases A with
  | none =>
    have h0 : l = [] := by
      cases l with
      | nil => rfl
      | cons b l => obtain ⟨_, _, h, _⟩ := h3 (by simp); cases h
    subst h0
    clear h3
    go_enter Tryd.func41, Tryd.ntmps41
    go_wp2
    go_ret
    exact ⟨_, rfl, NewT.refl _, ownB_nil _ _⟩
  | some a =>
    clear h3
    have r0 : (w.alloc (.cells #[] 5)).rowIs w.heap.size 5 0 (fun _ => undef) := rowIs_box w 5 0 (fun _ => undef)
    have o0 := ownsRow_row r0 w.heap.size 0 (by omega) (by unfold maxLen; omega) (Nat.le_refl _)
    have hB : Below w.heap.size w (w.alloc (.cells #[] 5)) := (Below.refl _ w).alloc (Nat.le_refl _) _
    have Hrd := Lib.hid (H.out.keep (KeepBut.below hB))
    generalize hn : l.length = n at *
    go_enter Tryd.func41, Tryd.ntmps41
    go_wp2_with (at_builtin; refine wpList_append_rd rfl (.tmp 5) (.tmp 6) 33 rfl (base := w.heap.size) Tryd.underlying33 hi hz0 hz1 hz2 rfl o0 rfl Hrd.out (by omega) hB.size ?_; intro v2 w2 o2 grow2)
    go_ret
    refine ⟨_, rfl, hB.grown grow2 hB.size (fun k e => (o0.lt k e).1), ?_⟩
    show OwnB _ _ _ _
    unfold OwnB
    simp only [List.range_zero, List.map_nil, List.nil_append, Nat.zero_add] at o2
    exact o2
set_option maxHeartbeats 1000000 in
theorem DBytes_c (g : Nat) (v : Value) (room : Nat) (S : List UInt8) (n : Nat) (w : World) (h : DiskAt w g v room S n) : Cv 25 #[.pointer (some ⟨g, 0, none⟩)] w (svFr w.heap.size S) := by
  have c1 := h.c1
  have H := Lib.hid h.own.rd
  have hb : S.length ≤ 1000000 := by have := h.fits; have := h.room2; omega
  obtain ⟨A, c, rfl, hc⟩ := h.own.cap
  clear h
  have Hb := Lib.hid hb
  clear hb
  unfold Cv
  go_enter Tryd.func25, Tryd.ntmps25
  go_wp2_with (go_at_call 41; refine Calls.mono (Clone_own _ S [] w H.out Hb.out) ?_; rintro _ w1 ⟨v1, rfl, hN1, hv1⟩; obtain ⟨A1, cc, rfl, hcc⟩ := OwnB.cap (show OwnB _ _ _ _ from hv1); have hs := slice_to3 A1 S.length cc S.length hcc)
  go_ret
  exact ⟨_, rfl, hN1, (OwnB.fresh hv1).cut⟩
theorem app_step {w w' : World} {g : Nat} {v v' : Value} {S l : List UInt8} (h : OwnB w (g + 1) v S) (hg : w.grownBy w' v.ownBlock) (hl : g < w.heap.size) (ho : v'.ownBlock = v.ownBlock ∨ ∃ k, v'.ownBlock = some k ∧ w.heap.size ≤ k) : DStep g v w w' v' :=
  ⟨(Below.refl _ w).grown hg (by omega) (fun k hk => by have := (h.lt k hk).1; omega), keepBut_grown hg (fun k hk => by simp [hk]), ho⟩
set_option maxHeartbeats 1000000 in
theorem Write_full (g : Nat) (v : Value) (room : Nat) (S : List UInt8) (n : Nat) (u : Value) (l : List UInt8) (w : World) (h : DiskAt w g v room S n) (hu : RdV w [] u l) (hl : room < S.length + l.length) : Cv 27 #[.pointer (some ⟨g, 0, none⟩), u] w (.eq (.int .i64 5)) := by
  have i1 : ((room - S.length : Nat) : Int) < (l.length : Int) := by have := h.fits; omega
  obtain ⟨A, c, rfl, _⟩ := hu
  have H := Lib.hid h
  clear h hl
  unfold Cv
  go_enter Tryd.func27, Tryd.ntmps27
  go_wp2_with (go_at_call 42; refine (Room_c g v room S n w H.out).eq.mono ?_; rintro _ w1 ⟨rfl, hB⟩)
  go_ret
  exact ⟨_, rfl, hB, rfl⟩
set_option maxHeartbeats 1000000 in
theorem Write_ok (g : Nat) (v : Value) (room : Nat) (S : List UInt8) (n : Nat) (u : Value) (l : List UInt8) (w : World) (h : DiskAt w g v room S n) (hu : RdV w [] u l) (hl : S.length + l.length ≤ room) : Calls Tryd.prog 27 #[.pointer (some ⟨g, 0, none⟩), u] w fun e w' => e = .returned (.int .i64 0) ∧ ∃ v', DStep g v w w' v' ∧ DiskAt w' g v' room (S ++ l) n := by
  have i1 : ¬ ((room - S.length : Nat) : Int) < (l.length : Int) := by have := h.fits; omega
  have HU := Lib.hid hu
  have hgl := h.lt
  obtain ⟨A, c, rfl, _⟩ := hu
  have H := Lib.hid h
  have Hl := Lib.hid hl
  clear h hl
  go_enter Tryd.func27, Tryd.ntmps27
  go_wp2_with (first
    | (go_at_call 42; refine (Room_c g v room S n w H.out).eq.mono ?_; rintro _ w1 ⟨rfl, hB⟩; have hB1 : NewT w w1 := hB; have HD := Lib.hid (H.out.new hB1); have c1 := HD.out.c1)
    | (at_builtin
       obtain ⟨v2, w2, hrun, hO, hG, hT⟩ := run_appB_two HD.out.own (hB1.rd HU.out) (by have := Hl.out; have := H.out.room2; omega) (Nat.succ_le_of_lt HD.out.lt) 33
       obtain ⟨A2, c2, rfl, _⟩ := hO.cap
       refine wpList_plain rfl (fun K hK => ?_)
       refine opr_append rfl rfl rfl hrun (hK _ _ ?_)
       clear hK K
       have HS := Lib.hid (app_step (g := g) (l := l) HD.out.own hG HD.out.lt hT)
       have hr2 := hG.block g HD.out.lt (fun e => by have := (HD.out.own.lt g e.symm).1; omega)
       have HR := Lib.hid (HD.out.row.of_block hr2)
       have c1' := HR.out.cell (i := 1) (by omega)
       have f1' := HR.out.frozen 1
       have HO := Lib.hid hO
       have HT := Lib.hid hT
       clear hO hT hG hr2 hrun))
  go_ret
  have hD := HD.out
  have hO := HO.out
  have hR := HR.out
  refine ⟨rfl, _, DStep.trans (DStep.new hgl hB1) (DStep.trans HS.out (DStep.of_rt (RT.setCell w2 1 _) rfl)), ?_, ?_, ?_, ?_, hD.room1, hD.room2⟩
  · exact (hR.set 1 _).congr fun i hi => by
      have : i = 0 ∨ i = 1 ∨ i = 2 := by omega
      rcases this with rfl | rfl | rfl <;> simp [dkF]
  · refine hO.of_block fun j o hj ho hc' => ?_
    have := (hO.lt j hj).1
    exact (RT.setCell (R := g) w2 1 _).keep.2 j o (by simp; omega) ho hc'
  · rw [List.length_append]; have := hD.last; omega
  · rw [List.length_append]; exact Hl.out
end Go.Proofs.YtbejolbknimmmaaDoor
/- A log in memory; what holds while a log is opened. -/
namespace Go.Proofs.YtbejolbknimmmaaDoor
open Go Go.RowKit
set_option maxRecDepth 8000
set_option linter.all false
/-- Block g is a log of the disk dk: its entries are es, of whose bytes n last. -/
structure LogAt (nx : (Nat → UInt8) → List UInt8 → Nat → UInt8) (w : World) (g dk : Nat) (v : Value) (room : Nat) (es : List (List UInt8)) (n : Nat) : Prop where
  row : w.rowIs g 64 35 (lgF ((encL nx mkL hash0 es).length : Int) (es.length : Int) (chL nx hash0 es) (.pointer (some ⟨dk, 0, none⟩)))
  disk : DiskAt w dk v room (encL nx mkL hash0 es) n
  ok : ∀ e ∈ es, okE e
  apart : g ∉ dk :: v.ownBlock.toList
  late : dk < g
theorem LogAt.lt {nx : (Nat → UInt8) → List UInt8 → Nat → UInt8} {w : World} {g dk : Nat} {v : Value} {room : Nat} {es : List (List UInt8)} {n : Nat} (h : LogAt nx w g dk v room es n) : dk < w.heap.size ∧ g < w.heap.size := ⟨h.disk.lt, h.row.lt⟩
theorem LogAt.new {nx : (Nat → UInt8) → List UInt8 → Nat → UInt8} {w w' : World} {g dk : Nat} {v : Value} {room : Nat} {es : List (List UInt8)} {n : Nat} (h : LogAt nx w g dk v room es n) (hN : NewT w w') : LogAt nx w' g dk v room es n :=
  ⟨hN.row h.row, h.disk.new hN, h.ok, h.apart, h.late⟩
theorem LogAt.keep {nx : (Nat → UInt8) → List UInt8 → Nat → UInt8} {w w' : World} {g dk : Nat} {v : Value} {room : Nat} {es : List (List UInt8)} {n : Nat} (h : LogAt nx w g dk v room es n) {L : List Nat} (hK : KeepBut L w w') (hL : ∀ k ∈ g :: dk :: v.ownBlock.toList, k ∉ L) : LogAt nx w' g dk v room es n :=
  ⟨hK.row (hL g (by simp)) h.row, h.disk.keep hK (hL dk (by simp)) (fun k hk => hL k (by simp [hk])), h.ok, h.apart, h.late⟩
/-- A step of a log: its block, its disk's, their row, and new memory alone are written. -/
structure LStep (g dk : Nat) (v : Value) (w w' : World) (v' : Value) : Prop where
  below : Below dk w w'
  keep : KeepBut (g :: dk :: v.ownBlock.toList) w w'
  own : v'.ownBlock = v.ownBlock ∨ ∃ k, v'.ownBlock = some k ∧ w.heap.size ≤ k
theorem own_apart2 {w : World} {g dk : Nat} {v v' : Value} {k : Nat} (hk : k < w.heap.size) (ho : v'.ownBlock = v.ownBlock ∨ ∃ k, v'.ownBlock = some k ∧ w.heap.size ≤ k) (h : k ∉ g :: dk :: v.ownBlock.toList) : k ∉ g :: dk :: v'.ownBlock.toList := by
  rw [List.mem_cons, not_or] at h ⊢
  exact ⟨h.1, own_apart hk ho h.2⟩
theorem LStep.trans {g dk : Nat} {v v' v'' : Value} {a b c : World} (h : LStep g dk v a b v') (k : LStep g dk v' b c v'') : LStep g dk v a c v'' := by
  refine ⟨h.below.trans k.below, ⟨Nat.le_trans h.keep.1 k.keep.1, fun i o hi ho hc => k.keep.2 i o (own_apart2 (lt_of_some ho) h.own hi) (h.keep.2 i o hi ho hc) hc⟩, ?_⟩
  rcases k.own with k1 | ⟨j, k1, k2⟩
  · rcases h.own with h1 | ⟨i, h1, h2⟩
    · exact .inl (k1.trans h1)
    · exact .inr ⟨i, k1.trans h1, h2⟩
  · exact .inr ⟨j, k1, Nat.le_trans h.below.size k2⟩
theorem LStep.new {g dk : Nat} {v : Value} {w w' : World} (hg : dk < w.heap.size) (h : NewT w w') : LStep g dk v w w' v := ⟨h.out.mono (by omega), KeepBut.below h, .inl rfl⟩
/-- What lies ahead of the disk stays. -/
theorem LStep.newT {W : World} {g dk : Nat} {v v' : Value} {w w' : World} (hW : NewT W w) (hg : W.heap.size ≤ dk) (h : LStep g dk v w w' v') : NewT W w' := NewT.of (hW.out.trans (h.below.mono hg))
theorem LStep.of_d {g dk : Nat} {v v' : Value} {w w' : World} (h : DStep dk v w w' v') : LStep g dk v w w' v' := ⟨h.below, h.keep.more (by simp +contextual), h.own⟩
theorem LStep.of_rt {g dk : Nat} {v : Value} {w w' : World} (hd : dk < g) (h : RT g w w') : LStep g dk v w w' v := ⟨h.below.mono (Nat.le_of_lt hd), h.keep.more (by simp), .inl rfl⟩
/-- Slices of bytes: their type, and that of their elements. -/
theorem ssTy : ∃ i, ValTy Tryd.prog 26 33 i (.slice none 0 0) := by
  have h : (Tryd.prog.info? 33).map (fun i => (i.zero.isSome, i.size, decide (i.bytes ≤ 64))) = some (true, 1, true) := by kernel_rfl
  have hz : (Tryd.prog.info? 33).bind (·.zero) = some (.slice none 0 0) := by kernel_rfl
  cases hq : Tryd.prog.info? 33 with
  | none => rw [hq] at h; cases h
  | some i =>
    rw [hq] at h hz
    simp at h hz
    exact ⟨i, Tryd.underlying26, hq, hz, h.2.1, rfl, h.2.2⟩
/-- While a log is opened: the log gl, the variables g5, g6, the entries so far. -/
structure OInv (nx : (Nat → UInt8) → List UInt8 → Nat → UInt8) (gl g5 g6 dk B : Nat) (vl : Value) (pre : List EntX) (V : World) : Prop where
  log : V.rowIs gl 64 35 (lgF ((encL nx mkL hash0 (esX pre)).length : Int) (pre.length : Int) (chL nx hash0 (esX pre)) (.pointer (some ⟨dk, 0, none⟩)))
  v5 : V.rowIs g5 25 1 (fun _ => .pointer (some ⟨gl, 0, none⟩))
  v6 : V.rowIs g6 26 1 (fun _ => vl)
  own : OwnV V (B + 1) 33 vl (pre.map (·.u))
  ent : ∀ x ∈ pre, ∀ L, (∀ k ∈ L, k ≤ B ∨ vl.ownBlock = some k) → RdV V L x.u x.e
theorem OInv.keep {nx : (Nat → UInt8) → List UInt8 → Nat → UInt8} {gl g5 g6 dk B : Nat} {vl : Value} {pre : List EntX} {A W : World} (h : OInv nx gl g5 g6 dk B vl pre A) (hl : gl < B ∧ g5 < B ∧ g6 < B) {M : List Nat} (hM : ∀ k ∈ M, k = B) (hK : KeepBut M A W) : OInv nx gl g5 g6 dk B vl pre W where
  log := hK.row (fun hm => by have := hM _ hm; omega) h.log
  v5 := hK.row (fun hm => by have := hM _ hm; omega) h.v5
  v6 := hK.row (fun hm => by have := hM _ hm; omega) h.v6
  own := h.own.of_block fun k o hk ho hc => hK.2 k o (fun hm => by have := hM _ hm; have := (h.own.lt k hk).1; omega) ho hc
  ent := fun x hx L hL => ((h.ent x hx (M ++ L) fun k hk => by
    rcases List.mem_append.1 hk with hk | hk
    · have := hM _ hk; exact .inl (by omega)
    · exact hL k hk).keep (hK.more (by simp +contextual))).less (by simp +contextual)
section
variable {a : Act} {w : World} {o : Oper} {K : Act → World → Prop} {Q : Exit → Act → World → Prop} {x y : Operand}
theorem opr_bldG {g : Nat} (ho : o.op = .build 64 #[(1, x)]) (hx : a.eval x = .pointer (some ⟨g, 0, none⟩)) (h : K (a.put o.dst (.agg (rowA 35 (lgF 0 0 (fun _ => 0) (.pointer (some ⟨g, 0, none⟩)))))) w) : o.wp Tryd.prog a w K Q := by
  obtain ⟨dst, op, type, pos, after, guard⟩ := o
  simp only at ho
  subst ho
  exact opr_val (s := Instr.build 64 #[(1, a.eval x)]) (by simp [execOp]) (by rw [hx]; exact run_bld_lg g w) h
theorem opr_boxA {P : Program} {t n : Nat} {F : Nat → Value} (ho : o.op = .box t x) (hx : a.eval x = .agg (rowA n F)) (h : K (a.put o.dst (.pointer (some ⟨w.heap.size, 0, none⟩))) (w.alloc (.cells (rowA n F) t))) : o.wp P a w K Q := by
  obtain ⟨dst, op, type, pos, after, guard⟩ := o
  simp only at ho
  subst ho
  refine opr_val (s := Instr.box t (a.eval x)) (w' := w.alloc (.cells (rowA n F) t)) rfl ?_ h
  rw [hx]
  simp [go_sem]
theorem opr_alloc1 {P : Program} {t : TypeId} {z : Value} (hal : ∀ w : World, (Instr.alloc t true (.tuple #[])).run P w = .ok (.pointer (some ⟨w.heap.size, 0, none⟩)) (w.alloc (.cells #[z] t))) (ho : o.op = .alloc t) (h : K (a.put o.dst (.pointer (some ⟨w.heap.size, 0, none⟩))) (w.alloc (.cells #[z] t))) : o.wp P a w K Q := by
  obtain ⟨dst, op, type, pos, after, guard⟩ := o
  simp only at ho
  subst ho
  exact opr_val (s := Instr.alloc t true (.tuple #[])) rfl (hal w) h
end
/-- A cell is stored; what is no cells stays. -/
theorem opr_put1W {P : Program} {a : Act} {w : World} {o : Oper} {K : Act → World → Prop} {Q : Exit → Act → World → Prop} {t t' : TypeId} {x y : Operand} {g o0 n : Nat} {v : Value} {f0 F : Nat → Value} (ho : o.op = .store t x y) (hx : a.eval x = .pointer (some ⟨g, o0, none⟩)) (hy : a.eval y = v) (hr : w.rowIs g t' n f0) (hm : o0 < n) (hi : (P.info? t).map (·.size) = some 1) (hone : v.oneCell' = true)
    (hF : ∀ i, i < n → F i = if i = o0 then v else f0 i) (h : ∀ w', RT g w w' → KeepsOthers w w' → w'.rowIs g t' n F → K (a.put o.dst undef) w') : o.wp P a w K Q := by
  obtain ⟨dst, op, type, pos, after, guard⟩ := o
  simp only at ho
  subst ho
  have hsz : (sizeOf t).run P w = .ok 1 w := by
    cases hq : P.info? t with
    | none => simp [hq] at hi
    | some i => simp [hq] at hi; simp [sizeOf, typeInfo, hq, hi]
  have hc := hr.cell hm
  have hf := hr.frozen o0
  have hcs : v.cells = #[v] := by cases v <;> first | rfl | simp [Value.oneCell'] at hone
  refine opr_unit (s := Instr.storeAt t (a.eval x) (a.eval y)) (w' := w.setCell ⟨g, o0, none⟩ v) rfl ?_ (h _ (RT.setCell w o0 v) (KeepsOthers.setCell _ _ _) ((hr.set o0 v).congr fun i hi => by rw [hF i hi]))
  rw [hx, hy]
  simp [Instr.storeAt, Instr.sureAddr, storeVar, hsz, hcs, storeCells, run_store _ _ _ _ _ hone, hc, hf, Addr.add_zero']
theorem KeepsOthers.of_grown {w w' : World} {row : Option Nat} (hg : w.grownBy w' row) (hc : ∀ k, row = some k → ∃ c t, w.heap[k]? = some (.cells c t)) : KeepsOthers w w' :=
  ⟨hg.size, fun k o hk ho => by
    have hlt : k < w.heap.size := (Array.getElem?_eq_some_iff.1 hk).1
    by_cases e : row = some k
    · obtain ⟨c, t, h⟩ := hc k e
      rw [h] at hk; cases hk; cases ho
    · exact (hg.block k hlt fun h => e h.symm).trans hk⟩
theorem OwnV.isCells {w : World} {B : Nat} {e : TypeId} {v : Value} {l : List Value} (h : OwnV w B e v l) : ∀ k, v.ownBlock = some k → ∃ c t, w.heap[k]? = some (.cells c t) := fun k hk => by
  rcases h.2 with ⟨rfl, _⟩ | ⟨g, cap, cur, rfl, _, hg, _⟩
  · cases hk
  · cases hk; exact ⟨cur, e, hg⟩
/-- An append of something onto an own row stays in its block, or makes a new one. -/
theorem run_appV_own {P : Program} {t e ty : TypeId} {i0 : TypeInfo} {z : Value} (Y : ValTy P t e i0 z) {W w' : World} {B : Nat} {v u v' : Value} {l m : List Value} {L : List Nat} (h : OwnV W B e v l) (hr : ValsAt W L u m) (h1c : ∀ x ∈ m, x.oneCell' = true) (hm : m ≠ []) (hn : l.length + m.length ≤ 1000000)
    (h1 : (Builtin.append_ #[t, t] ty #[v, u]).run P W = .ok v' w') : v'.ownBlock = v.ownBlock ∨ ∃ k, v'.ownBlock = some k ∧ W.heap.size ≤ k := by
  obtain ⟨A, cap, rfl, k1, k2, k3⟩ := hr
  have hm' : 0 < m.length := List.length_pos_iff.2 hm
  obtain ⟨b, o, rfl, _, hc⟩ := k3 hm'
  have hcells : ∀ j u, m[j]? = some u → W.cell? ((⟨b, o, none⟩ : Addr).add j) = some u := fun j u hj => by
    rw [Addr.add_mid]; exact hc j u hj
  have hl1 : l.length * i0.bytes ≤ 64000000 := Nat.le_trans (Nat.mul_le_mul (by omega : l.length ≤ 1000000) Y.bytes) (by omega)
  have hm1 : (l.length + m.length) * i0.bytes ≤ 64000000 := Nat.le_trans (Nat.mul_le_mul hn Y.bytes) (by omega)
  have hm2 : m.length * i0.bytes ≤ 64000000 := Nat.le_trans (Nat.mul_le_mul (by omega : m.length ≤ 1000000) Y.bytes) (by omega)
  rcases h.2 with ⟨rfl, h0⟩ | ⟨g, c, cur, rfl, hb, hg, hnc, hcm, hs, ht⟩
  · have hrun := run_append_nil (P := P) W t ty e i0 _ Y.sl Y.info Y.zero ⟨b, o, none⟩ m.length cap m (by rw [Y.size]; simp) hcells (by omega) (by omega) (by omega)
    rw [h1] at hrun
    injection hrun with e _
    right
    exact ⟨W.heap.size, by rw [e]; rfl, Nat.le_refl _⟩
  · by_cases hroom : l.length + m.length ≤ c
    · have hrun2 := run_append_room (P := P) W t ty e i0 Y.sl Y.info g l.length c cur hg ⟨b, o, none⟩ m.length cap m (by rw [Y.size]; simp) hcells h1c hroom (by rw [hs, Y.size]; omega)
      rw [h1] at hrun2
      injection hrun2 with e _
      left
      rw [e]; rfl
    · have hrun2 := run_append_grow (P := P) W t ty e i0 z Y.sl Y.info Y.zero ⟨g, 0, none⟩ l.length c l (by rw [Y.size]; simp) (World.ownsRow.cells h (g := g) rfl) ⟨b, o, none⟩ m.length cap m (by rw [Y.size]; simp) hcells (by omega) (by omega) (growslice_fits (by omega) (by omega))
      rw [h1] at hrun2
      injection hrun2 with e _
      right
      exact ⟨W.heap.size, by rw [e]; rfl, Nat.le_refl _⟩
/-- A new slice of one slice: what its one cell holds. -/
theorem opr_bs1V {a : Act} {w : World} {o : Oper} {K : Act → World → Prop} {Q : Exit → Act → World → Prop} {x : Operand} {A : Option Addr} {n c : Nat} (ho : o.op = .buildSlice 26 1 #[(0, x)]) (hx : a.eval x = .slice A n c) (h : ∀ v w', NewT w w' → ValsAt w' [] v [.slice A n c] → K (a.put o.dst v) w') : o.wp Tryd.prog a w K Q := by
  obtain ⟨dst, op, type, pos, after, guard⟩ := o
  simp only at ho
  subst ho
  refine opr_val (s := Instr.buildSlice 26 1 #[(0, a.eval x)]) (by simp [execOp]) (by rw [hx]; exact run_bs1 A n c w) (h _ _ (NewT.alloc _ _) ⟨some ⟨w.heap.size, 0, none⟩, 1, rfl, by simp, by unfold maxLen; omega, fun _ => ⟨w.heap.size, 0, rfl, by simp, fun i y hy => ?_⟩⟩)
  have h0 : i = 0 := by have := (List.getElem?_eq_some_iff.1 hy).1; simpa using this
  subst h0
  simp at hy
  subst hy
  exact (rowIs_one w 33 (.slice A n c)).cell (i := 0) (by omega)
theorem opr_ldPL {a : Act} {w : World} {o : Oper} {K : Act → World → Prop} {Q : Exit → Act → World → Prop} {x : Operand} {g n o0 : Nat} {t' : TypeId} {F : Nat → Value} {v : Value} (hr : w.rowIs g t' n F) (hn : o0 < n) (hv : F o0 = v) (ho : o.op = .load 25 x) (hx : a.eval x = .pointer (some ⟨g, o0, none⟩)) (h : K (a.put o.dst v) w) : o.wp Tryd.prog a w K Q :=
  opr_ld1 Tryd.underlying25 rfl ho hx (by rw [hr.cell hn, hv]) h
theorem opr_ldSs {a : Act} {w : World} {o : Oper} {K : Act → World → Prop} {Q : Exit → Act → World → Prop} {x : Operand} {g n o0 : Nat} {t' : TypeId} {F : Nat → Value} {v : Value} (hr : w.rowIs g t' n F) (hn : o0 < n) (hv : F o0 = v) (ho : o.op = .load 26 x) (hx : a.eval x = .pointer (some ⟨g, o0, none⟩)) (h : K (a.put o.dst v) w) : o.wp Tryd.prog a w K Q :=
  opr_ld1 Tryd.underlying26 rfl ho hx (by rw [hr.cell hn, hv]) h
theorem ValsAt.parts {w : World} {L : List Nat} {v : Value} {ps : List (Value × List UInt8)} (h : ValsAt w L v (ps.map (·.1))) (hr : ∀ x ∈ ps, RdV w L x.1 x.2) : PartsAt w L v ps := by
  obtain ⟨A, cap, hv, h1, h2, h3⟩ := h
  rw [List.length_map] at hv h1 h3
  refine ⟨A, cap, hv, h1, h2, fun h0 => ?_, hr⟩
  obtain ⟨b, o, hA, hb, hc⟩ := h3 h0
  exact ⟨b, o, hA, hb, fun i x hx => hc i x.1 (by rw [List.getElem?_map, hx]; rfl)⟩
theorem results_3v {P : Program} {fn : Func} {tmps : Array Value} {w : World} {p q u : Tmp} {x y v : Value} (hf : fn.results = #[.tmp p, .tmp q, .tmp u]) (hp : tmps.getD p undef = x) (hq : tmps.getD q undef = y) (hv : tmps.getD u undef = v) : (results fn tmps).run P w = .ok (.tuple #[x, y, v]) w := by
  have hp' : tmps[p]?.getD undef = x := by simpa using hp
  have hq' : tmps[q]?.getD undef = y := by simpa using hq
  have hv' : tmps[u]?.getD undef = v := by simpa using hv
  simp [results, hf, hp', hq', hv']
set_option maxHeartbeats 400000 in
theorem leave_k (g : Nat) (v : Value) (room : Nat) (S : List UInt8) (n k : Nat) (w : World) (h : DiskAt w g v room S n) (hk : k ≤ S.length) : Calls Tryd.prog 39 #[.pointer (some ⟨g, 0, none⟩), .int .i64 (k : Int)] w fun e w' => e = .returned (.tuple #[]) ∧ KeepsOthers w w' ∧ ∃ v', DStep g v w w' v' ∧ DiskAt w' g v' room (S.take k) k := by
  have f1 := h.row.frozen 1
  have f2 := h.row.frozen 2
  have c1 := h.c1
  have c2 := h.c2
  obtain ⟨A, c, rfl, hc⟩ := h.own.cap
  have hs := slice_to A S.length c k (by omega)
  have H := Lib.hid h
  have Hk := Lib.hid hk
  clear h hk hc
  generalize hm : S.length = m at *
  have Hm := Lib.hid hm
  clear hm
  go_enter Tryd.func39, Tryd.ntmps39
  go_wp2
  go_end0
  have h := H.out
  have hk := Hk.out
  have hm := Hm.out
  refine ⟨rfl, (KeepsOthers.setCell _ _ _).trans (KeepsOthers.setCell _ _ _), .slice A k c, DStep.of_rt (RT.trans _ _ _ (RT.setCell w 1 _) (RT.setCell _ 2 _)) (by cases A <;> rfl), ?_, ?_, ?_, ?_, h.room1, h.room2⟩
  · exact ((h.row.set 1 _).set 2 _).congr fun i hi => by
      have : i = 0 ∨ i = 1 ∨ i = 2 := by omega
      rcases this with rfl | rfl | rfl <;> simp [dkF]
  · refine (h.own.take (k := k) (by omega)).of_block fun j o hj ho hc' => ?_
    have hj' : (Value.slice A m c).ownBlock = some j := by cases A <;> exact hj
    have := (h.own.lt j hj').1
    exact (RT.trans _ _ _ (RT.setCell (R := g) w 1 _) (RT.setCell _ 2 _)).keep.2 j o (by simp; omega) ho hc'
  · rw [List.length_take]; omega
  · rw [List.length_take]; have := h.fits; omega
set_option maxHeartbeats 1000000 in
theorem Cut_k (g : Nat) (v : Value) (room : Nat) (S : List UInt8) (n k : Nat) (w : World) (h : DiskAt w g v room S n) (hk : k ≤ S.length) : Calls Tryd.prog 32 #[.pointer (some ⟨g, 0, none⟩), .int .i64 (k : Int)] w fun e w' => e = .returned (.int .i64 0) ∧ KeepsOthers w w' ∧ ∃ v', DStep g v w w' v' ∧ DiskAt w' g v' room (S.take k) k := by
  have c1 := h.c1
  have H := Lib.hid h
  have Hk := Lib.hid hk
  obtain ⟨A, c, rfl, _⟩ := h.own.cap
  clear h
  have i1 : ¬ (k : Int) < 0 := by omega
  have i2 : ¬ (S.length : Int) < (k : Int) := by omega
  clear hk
  go_enter Tryd.func32, Tryd.ntmps32
  go_wp2_with (go_at_call 39; refine (leave_k g _ room S n k _ H.out Hk.out).mono ?_; rintro _ w' ⟨rfl, hO, v', hD, hA⟩)
  go_ret
  exact ⟨rfl, hO, v', hD, hA⟩
theorem run_alloc_pl (w : World) : (Instr.alloc 25 true (.tuple #[])).run Tryd.prog w = .ok (.pointer (some ⟨w.heap.size, 0, none⟩)) (w.alloc (.cells #[.pointer none] 25)) := by kernel_rfl
theorem run_alloc_ss (w : World) : (Instr.alloc 26 true (.tuple #[])).run Tryd.prog w = .ok (.pointer (some ⟨w.heap.size, 0, none⟩)) (w.alloc (.cells #[.slice none 0 0] 26)) := by kernel_rfl
theorem info_pl : (Tryd.prog.info? 25).map (·.size) = some 1 := by kernel_rfl
theorem info_ss1 : (Tryd.prog.info? 26).map (·.size) = some 1 := by kernel_rfl
end Go.Proofs.YtbejolbknimmmaaDoor
/- A disk's log: what Open returns. -/
namespace Go.Proofs.YtbejolbknimmmaaDoor
open Go Go.RowKit Go.Shelf
set_option maxRecDepth 8000
set_option linter.all false
attribute [local go_sem] Oper.semAt_some
set_option maxHeartbeats 4000000 in
theorem Open_c {nx : (Nat → UInt8) → List UInt8 → Nat → UInt8} (hX : LogH nx) (dk : Nat) (v : Value) (room : Nat) (S : List UInt8) (n : Nat) (w : World) (hT : Tables w) (h : DiskAt w dk v room S n) (es : List (List UInt8)) (hes : IsLog nx mkL hash0 S es) (hdk : 1 < dk) :
    Calls Tryd.prog 11 #[.pointer (some ⟨dk, 0, none⟩)] w fun e w' => ∃ g v' lv ps, e = .returned (.tuple #[.pointer (some ⟨g, 0, none⟩), lv, .int .i64 0]) ∧ w.heap.size ≤ g ∧ DStep dk v w w' v' ∧ LogAt nx w' g dk v' room es (encL nx mkL hash0 es).length ∧ ps.map (·.2) = es ∧
      ∀ L, (∀ k ∈ L, k < w.heap.size ∨ k = g ∨ v'.ownBlock = some k) → PartsAt w' L lv ps := by
  have HT := Lib.hid hT
  have HD := Lib.hid h
  have HES := Lib.hid hes
  have HDK := Lib.hid (⟨hdk, h.lt⟩ : 1 < dk ∧ dk < w.heap.size)
  have HS1 : Hid (S.length ≤ 65536) := Lib.hid (Nat.le_trans h.fits h.room2)
  clear hT h hes hdk
  refine (callsIn_wide (n := 0)).1 ?_
  refine callsIn_of_wp_marks Tryd.func11 rfl trivial ?_ rfl
  simp only [Tryd.ntmps11, List.size_toArray, List.length_cons, List.length_nil, Nat.reduceAdd, Nat.reduceSub, Array.replicate_succ, Array.replicate_zero, List.push_toArray, List.append_toArray, List.nil_append, List.cons_append]
  gi_upto_region 3 with fail
  refine wpIn_region_lit ?_
  refine wpListIn_wpW (by kernel_rfl) (by simp) rfl (fun K hK => ?_)
  refine opr_mvV (.inl rfl) rfl (hK _ _ ?_)
  clear hK K
  simp only [Act.put, List.setIfInBounds_toArray, List.set_cons_zero, List.set_cons_succ]
  refine wpListIn_wpW (by kernel_rfl) (by simp) rfl (fun K hK => ?_)
  refine opr_bldG rfl rfl (hK _ _ ?_)
  clear hK K
  simp only [Act.put, List.setIfInBounds_toArray, List.set_cons_zero, List.set_cons_succ]
  refine wpListIn_wpW (by kernel_rfl) (by simp) rfl (fun K hK => ?_)
  refine opr_boxA rfl rfl (hK _ _ ?_)
  clear hK K
  have rl := rowIs_box w 64 35 (lgF 0 0 (fun _ => 0) (.pointer (some ⟨dk, 0, none⟩)))
  have n1 := NewT.alloc w (.cells (rowA 35 (lgF 0 0 (fun _ => 0) (.pointer (some ⟨dk, 0, none⟩)))) 64)
  have z1 : (w.alloc (.cells (rowA 35 (lgF 0 0 (fun _ => 0) (.pointer (some ⟨dk, 0, none⟩)))) 64)).heap.size = w.heap.size + 1 := by simp
  obtain ⟨gl, hgl⟩ : ∃ gl, w.heap.size = gl := ⟨_, rfl⟩
  generalize w.alloc (.cells (rowA 35 (lgF 0 0 (fun _ => 0) (.pointer (some ⟨dk, 0, none⟩)))) 64) = w1 at rl n1 z1 ⊢
  rw [hgl] at rl z1 ⊢
  simp only [Act.put, List.setIfInBounds_toArray, List.set_cons_zero, List.set_cons_succ]
  refine wpListIn_wpW (by kernel_rfl) (by simp) rfl (fun K hK => ?_)
  refine opr_alloc1 run_alloc_pl rfl (hK _ _ ?_)
  clear hK K
  have r5 := rowIs_one w1 25 (.pointer none)
  have n2 := NewT.alloc w1 (.cells #[.pointer none] 25)
  have z2 : (w1.alloc (.cells #[.pointer none] 25)).heap.size = gl + 2 := by simp [z1]
  generalize w1.alloc (.cells #[.pointer none] 25) = w2 at r5 n2 z2 ⊢
  rw [z1] at r5 ⊢
  simp only [Act.put, List.setIfInBounds_toArray, List.set_cons_zero, List.set_cons_succ]
  refine wpListIn_wpW (by kernel_rfl) (by simp) rfl (fun K hK => ?_)
  refine opr_put1 (v := .pointer (some ⟨gl, 0, none⟩)) (F := fun _ => .pointer (some ⟨gl, 0, none⟩)) rfl rfl rfl r5 (by decide) info_pl rfl (fun i hi => by rw [if_pos (by omega)]) ?_
  intro w3 hR3 r53
  refine hK _ _ ?_
  clear hK K
  have hs3 := hR3.below.size
  have L3 := Lib.hid (hR3.row (by omega) (n2.row rl))
  have V3 := Lib.hid r53
  have N3 := Lib.hid (NewT.rt (NewT.trans _ _ _ n1 n2) hR3 (by omega))
  clear rl n1 r5 n2 hR3 r53
  refine wpListIn_endW rfl ?_
  simp only [Act.put, List.setIfInBounds_toArray, List.set_cons_zero, List.set_cons_succ]
  go_simp
  gi_upto_region 4 with fail
  refine wpIn_region_lit ?_
  refine wpListIn_wpW (by kernel_rfl) (by simp) rfl (fun K hK => ?_)
  refine opr_alloc1 run_alloc_ss rfl (hK _ _ ?_)
  clear hK K
  have r6 := rowIs_one w3 26 (.slice none 0 0)
  have n4 := NewT.alloc w3 (.cells #[.slice none 0 0] 26)
  obtain ⟨g6, hg6⟩ : ∃ g6, w3.heap.size = g6 := ⟨_, rfl⟩
  generalize w3.alloc (.cells #[.slice none 0 0] 26) = w4 at r6 n4 ⊢
  rw [hg6] at r6 ⊢
  refine wpListIn_endW rfl ?_
  simp only [Act.put, List.setIfInBounds_toArray, List.set_cons_zero, List.set_cons_succ]
  go_simp
  have HN4 := Lib.hid (NewT.trans _ _ _ N3.out n4)
  have HL4 := Lib.hid (n4.row L3.out)
  have HV4 := Lib.hid (n4.row V3.out)
  have HR6 := Lib.hid r6
  have hg6l := r6.lt
  clear r6 n4 L3 V3 N3
  gi_upto_region 5 with fail
  refine wpIn_region_lit ?_
  refine wpListIn_wpW (by kernel_rfl) (by simp) rfl (fun K hK => ?_)
  refine opr_mvV (.inl rfl) rfl (hK _ _ ?_)
  clear hK K
  simp only [Act.put, List.setIfInBounds_toArray, List.set_cons_zero, List.set_cons_succ]
  refine wpListIn_wpW (by kernel_rfl) (by simp) rfl (fun K hK => ?_)
  refine opr_cv (DBytes_c dk v room S n w4 (HD.out.new HN4.out)) rfl Tryd.func25 (by kernel_rfl) (by kernel_rfl) (by simp only [List.map_toArray, List.map_cons, List.map_nil, eval_tmp]; rfl) ?_
  intro vB w5 n5 hf
  refine hK _ _ ?_
  replace hf : FreshB w4.heap.size w5 vB S := hf
  have hvb : ∀ k, vB.ownBlock = some k → w4.heap.size ≤ k ∧ k < w5.heap.size := fun k hk => by
    rcases hf with ⟨rfl, _⟩ | ⟨g, c, N, f, rfl, _, _, hg, hr, _⟩
    · cases hk
    · cases hk; exact ⟨hg, hr.lt⟩
  have hrd := hf.rd
  obtain ⟨AB, cB, hvBe⟩ := rdV_form hrd
  have HVB := Lib.hid hvb
  subst hvBe
  clear hf hvb
  clear hK K
  simp only [Act.put, List.setIfInBounds_toArray, List.set_cons_zero, List.set_cons_succ]
  refine wpListIn_wpW (by kernel_rfl) (by simp) rfl (fun K hK => ?_)
  refine opr_call rfl Tryd.func31 (by kernel_rfl) (by kernel_rfl) (by simp only [List.map_toArray, List.map_cons, List.map_nil, eval_tmp]; rfl) ((entries_any AB S.length cB w5).mono ?_)
  rintro _ w6 ⟨rfl, hw6⟩
  refine ⟨_, rfl, hK _ _ ?_⟩
  clear hK K
  have rb := rowIs_one w5 33 (.slice AB S.length cB)
  have n6 := NewT.alloc w5 (.cells #[.slice AB S.length cB] 33)
  rw [hw6] at rb n6
  have cbx := rb.cell (i := 0) (by omega)
  obtain ⟨pb, hpb⟩ : ∃ pb, w5.heap.size = pb := ⟨_, rfl⟩
  rw [hpb] at cbx rb ⊢
  refine wpListIn_endW rfl ?_
  simp only [Act.put, List.setIfInBounds_toArray, List.set_cons_zero, List.set_cons_succ]
  go_simp
  have hpl := rb.lt
  have n46 := NewT.trans _ _ _ n5 n6
  have HN6 := Lib.hid (NewT.trans _ _ _ HN4.out n46)
  have HL := Lib.hid (n46.row HL4.out)
  have HV := Lib.hid (n46.row HV4.out)
  have H6 := Lib.hid (n46.row HR6.out)
  have seq := entries1_seq hX pb _ S w6 (HT.out.below HN6.out.out) cbx (n6.rd hrd) (by have := HS1.out; omega)
  have hsz6 : gl + 1 < g6 ∧ g6 < w4.heap.size ∧ w4.heap.size ≤ pb ∧ pb < w6.heap.size := ⟨by omega, hg6l, by rw [← hpb]; exact n5.out.size, hpl⟩
  have HSZ := Lib.hid hsz6
  clear cbx rb n6 hrd hw6 n46 HN4 HL4 HV4 HR6 hg6l hsz6 hpl n5
  gi_wp2_with fail
  refine range_law3 (n := 0) (gf := 44) (lb := #[.pointer (some ⟨pb, 0, none⟩)]) rfl (enters_of Tryd.func44 (by kernel_rfl) rfl) seq (Below.refl _ _)
    (fun pre x A W W' hG hK => ⟨hG.ok, hG.at', hG.place, hG.count, hG.chain, fun L hL => (hG.new L hL).keep (hK.more (by simp))⟩) (fun _ => rfl)
    (fun pre V => (∃ vl, OInv nx gl (gl + 1) g6 dk (w6.heap.size + 2) vl pre V) ∧ Below w.heap.size w V)
    (fun pre A B hI hS => ⟨hI.1.imp fun vl h => h.keep (by have := HSZ.out; omega) (M := [w6.heap.size + 2]) (by simp) hS.but, hI.2.trans (hS.below.mono (by have := HSZ.out; omega))⟩)
    (fun pre A l o o' hl ho hc hI => ⟨hI.1.imp fun vl h => h.keep (by have := HSZ.out; omega) (M := []) (by simp) (KeepBut.putObj ho hc), hI.2.trans (below_putObj (by have := HSZ.out; omega) _)⟩)
    (fun W1 hb => ⟨⟨.slice none 0 0, (NewT.of hb).row HL.out, (NewT.of hb).row HV.out, (NewT.of hb).row H6.out, ownV_nil _ _ _, by simp⟩, HN6.out.out.trans (hb.mono (by have := HSZ.out; omega))⟩)
    (fun x a1 V => ∃ p, a1 = { tmps := #[.pointer (some ⟨dk, 0, none⟩), undef, .pointer none, .slice none 0 0, .int .i64 0, .pointer (some ⟨gl + 1, 0, none⟩), .pointer (some ⟨g6, 0, none⟩), x.u, .pointer (some ⟨p, 0, none⟩), .pointer (some ⟨dk, 0, none⟩), .bool false, .pointer (some ⟨dk, 0, none⟩), .agg (rowA 35 (lgF 0 0 (fun _ => 0) (.pointer (some ⟨dk, 0, none⟩)))), .pointer (some ⟨gl, 0, none⟩), .pointer (some ⟨dk, 0, none⟩), .slice AB S.length cB, .func (.func 44) #[] #[.pointer (some ⟨pb, 0, none⟩)], x.u, .agg (rowA 34 (enF (x.p : Int) (x.c : Int) x.d)), undef, undef, undef, undef, undef, undef, undef, undef, undef, undef, undef, undef, undef, undef, undef, undef, undef], defers := [] } ∧ V.rowIs p 62 34 (enF (x.p : Int) (x.c : Int) x.d))
    (fun x a1 V l o o' hl ho hc hA => by obtain ⟨p, h1, h2⟩ := hA; exact ⟨p, h1, (KeepBut.putObj (L := []) ho hc).row (by simp) h2⟩) ?assign ?body ?done
  case assign =>
    intro l2 x V K hK
    unfold encX
    gi_upto_region 7 with fail
    refine wpIn_region_lit ?_
    refine wpListIn_wp (by kernel_rfl) (by simp) rfl (fun K2 hK2 => ?_)
    refine opr_alloc_en rfl (hK2 _ _ ?_)
    clear hK2 K2
    have rp := rowIs_box V 62 34 (enF 0 0 fun _ => 0)
    have np := NewT.alloc V (.cells (rowA 34 (enF 0 0 fun _ => 0)) 62)
    generalize V.alloc (.cells (rowA 34 (enF 0 0 fun _ => 0)) 62) = V1 at rp np ⊢
    simp only [Act.put, List.setIfInBounds_toArray, List.set_cons_zero, List.set_cons_succ]
    refine wpListIn_wp (by kernel_rfl) (by simp) rfl (fun K2 hK2 => ?_)
    refine opr_putmW (g := V.heap.size) (o0 := 0) (m := 34) (f := enF (x.p : Int) (x.c : Int) x.d) (F := enF (x.p : Int) (x.c : Int) x.d) rfl rfl rfl rp (by decide) infoE' (fun _ => enF_one _ _ _ _) (fun i hi => by rw [if_pos (by omega), Nat.sub_zero]) ?_
    intro V2 hR2 _ r2
    refine hK2 _ _ ?_
    clear hK2 K2
    refine wpListIn_end rfl ?_
    simp only [Act.put, List.setIfInBounds_toArray, List.set_cons_zero, List.set_cons_succ]
    go_simp
    exact hK _ _ (NewT.rt np hR2 (Nat.le_refl _)).out ⟨V.heap.size, rfl, r2⟩
  case body =>
    rintro l2 pre x a1 A V hl2 hszA ⟨⟨vl, hI⟩, _⟩ ⟨_, hbV⟩ hKA hBA hG ⟨p, rfl, hp⟩
    have hgl6 := HSZ.out
    have hIV := hI.keep (by omega) (M := [w6.heap.size + 2]) (by simp) hKA
    have hvl := fun k hk => hI.own.lt k hk
    obtain ⟨Au, cu, hu⟩ := rdV_form (hG.new [] (by simp))
    obtain ⟨i0, hTy⟩ := ssTy
    have c6 := hIV.v6.cell (i := 0) (by omega)
    have hlen : pre.length ≤ 100000 := by
      have h1 := encL_count nx hash0 (esX pre ++ [x.e])
      have h2 := hG.at'.length_le
      have h3 := HS1.out
      rw [List.length_append, esX_length] at h1
      omega
    gi_upto_region 8 with fail
    refine wpIn_region_lit ?_
    refine wpListIn_wp (by kernel_rfl) (by simp) rfl (fun K hK => ?_)
    refine opr_ld1 Tryd.underlying26 rfl rfl rfl c6 (hK _ _ ?_)
    clear hK K
    simp only [Act.put, List.setIfInBounds_toArray, List.set_cons_zero, List.set_cons_succ]
    refine wpListIn_wp (by kernel_rfl) (by simp) rfl (fun K hK => ?_)
    refine opr_mvV (.inl rfl) rfl (hK _ _ ?_)
    clear hK K
    simp only [Act.put, List.setIfInBounds_toArray, List.set_cons_zero, List.set_cons_succ]
    refine wpListIn_wp (by kernel_rfl) (by simp) rfl (fun K hK => ?_)
    refine opr_bs1V rfl hu ?_
    intro v21 V1 nV1 hv21
    refine hK _ _ ?_
    clear hK K
    simp only [Act.put, List.setIfInBounds_toArray, List.set_cons_zero, List.set_cons_succ]
    have o1 : OwnV V1 (w6.heap.size + 3) 33 vl (pre.map (·.u)) := hIV.own.keep nV1
    obtain ⟨v22, V2, hrun, hO2, _, hg2⟩ := run_appV_T (P := Tryd.prog) (ty := 26) hTy o1 hv21 (by intro y hy; simp at hy; subst hy; rfl) (C := pre.map (·.u) ++ [.slice Au x.e.length cu]) (List.prefix_refl _) (by simp; omega) (by have := nV1.out.size; have := hKA.1; omega)
    refine wpListIn_wp (by kernel_rfl) (by simp) rfl (fun K hK => ?_)
    refine opr_append rfl rfl rfl hrun (hK _ _ ?_)
    clear hK K
    have hown2 := run_appV_own hTy o1 hv21 (by intro y hy; simp at hy; subst hy; rfl) (by simp) (by simp; omega) hrun
    obtain ⟨A22, c22, e22, _⟩ := hO2.cap
    have kb2 : KeepBut vl.ownBlock.toList V1 V2 := keepBut_grown hg2 (fun k hk => by simp [hk])
    have ko2 := KeepsOthers.of_grown hg2 o1.isCells
    have h62 := kb2.row (by simp; intro h; have := hvl _ h; omega) (nV1.row hIV.v6)
    simp only [Act.put, List.setIfInBounds_toArray, List.set_cons_zero, List.set_cons_succ]
    refine wpListIn_wp (by kernel_rfl) (by simp) rfl (fun K hK => ?_)
    refine opr_put1W (v := v22) (F := fun _ => v22) rfl rfl rfl h62 (by decide) info_ss1 (by rw [e22]; rfl) (fun i hi => by rw [if_pos (by omega)]) ?_
    intro V3 hR3 hO3 r3
    refine hK _ _ ?_
    clear hK K
    refine wpListIn_end rfl ?_
    simp only [Act.put, List.setIfInBounds_toArray, List.set_cons_zero, List.set_cons_succ]
    go_simp
    have hpn : p ≠ g6 ∧ p ≠ gl ∧ ∀ k, vl.ownBlock = some k → p ≠ k := by
      obtain ⟨cp, hcp, _⟩ := hp
      refine ⟨fun e => ?_, fun e => ?_, fun k hk e => ?_⟩
      · obtain ⟨c, hc, _⟩ := hIV.v6
        rw [e, hc] at hcp; cases hcp
      · obtain ⟨c, hc, _⟩ := hIV.log
        rw [e, hc] at hcp; cases hcp
      · rcases hIV.own.2 with ⟨e2, _⟩ | ⟨g, cap, cur, e2, _, hg, _⟩
        · rw [e2] at hk; cases hk
        · rw [e2] at hk; cases hk
          rw [e, hg] at hcp; cases hcp
    have hp3 : V3.rowIs p 62 34 (enF (x.p : Int) (x.c : Int) x.d) := hR3.row hpn.1 (kb2.row (by simp; intro h; exact hpn.2.2 p h rfl) (nV1.row hp))
    have h53 : V3.rowIs (gl + 1) 25 1 (fun _ => .pointer (some ⟨gl, 0, none⟩)) := hR3.row (by omega) (kb2.row (by simp; intro h; have := hvl _ h; omega) (nV1.row hIV.v5))
    have hl3 : V3.rowIs gl 64 35 _ := hR3.row (by omega) (kb2.row (by simp; intro h; have := hvl _ h; omega) (nV1.row hIV.log))
    have c5 := h53.cell (i := 0) (by omega)
    gi_upto_region 9 with fail
    refine wpIn_region_lit ?_
    refine wpListIn_wp (by kernel_rfl) (by simp) rfl (fun K hK => ?_)
    refine opr_ld1 Tryd.underlying25 rfl rfl rfl c5 (hK _ _ ?_)
    clear hK K
    simp only [Act.put, List.setIfInBounds_toArray, List.set_cons_zero, List.set_cons_succ]
    refine wpListIn_wp (by kernel_rfl) (by simp) rfl (fun K hK => ?_)
    refine opr_ldE hp3 (Nat.le_refl _) (fun _ _ => rfl) rfl rfl (hK _ _ ?_)
    clear hK K
    simp only [Act.put, List.setIfInBounds_toArray, List.set_cons_zero, List.set_cons_succ]
    refine wpListIn_wp (by kernel_rfl) (by simp) rfl (fun K hK => ?_)
    refine opr_nilc rfl rfl (hK _ _ ?_)
    clear hK K
    simp only [Act.put, List.setIfInBounds_toArray, List.set_cons_zero, List.set_cons_succ]
    refine wpListIn_wp (by kernel_rfl) (by simp) rfl (fun K hK => ?_)
    refine opr_fldG0 rfl rfl (hK _ _ ?_)
    clear hK K
    simp only [Act.put, List.setIfInBounds_toArray, List.set_cons_zero, List.set_cons_succ]
    refine wpListIn_wp (by kernel_rfl) (by simp) rfl (fun K hK => ?_)
    refine opr_putmW (g := gl) (o0 := 0) (m := 34) (f := enF (x.p : Int) (x.c : Int) x.d) (F := lgF (x.p : Int) (x.c : Int) x.d (.pointer (some ⟨dk, 0, none⟩))) rfl rfl rfl hl3 (by decide) infoE' (fun _ => enF_one _ _ _ _) (fun i hi => lgF_set _ _ _ _ _ _ _ i hi) ?_
    intro V4 hR4 hO4 r4
    refine hK _ _ ?_
    clear hK K
    refine wpListIn_end rfl ?_
    simp only [Act.put, List.setIfInBounds_toArray, List.set_cons_zero, List.set_cons_succ]
    go_simp
    gi_wp2
    have hsnoc : (pre ++ [x]).map (·.u) = pre.map (·.u) ++ [.slice Au x.e.length cu] := by rw [List.map_append, ← hu]; rfl
    have hkb : KeepBut (gl :: g6 :: vl.ownBlock.toList) V V4 := (((KeepBut.below nV1.out).trans (kb2.more (by simp +contextual))).trans (hR3.keep.more (by simp))).trans (hR4.keep.more (by simp))
    have hM : ∀ k ∈ gl :: g6 :: vl.ownBlock.toList, k ≤ w6.heap.size + 2 ∨ vl.ownBlock = some k := fun k hk => by
      simp at hk
      rcases hk with rfl | rfl | hk
      · left; omega
      · left; omega
      · exact .inr hk
    have key : ∀ y ∈ pre ++ [x], ∀ L, (∀ k ∈ L, k ≤ w6.heap.size + 2 ∨ vl.ownBlock = some k) → RdV V L y.u y.e := fun y hy L hL => by
      rcases List.mem_append.1 hy with hy | hy
      · exact hIV.ent y hy L hL
      · simp at hy
        subst hy
        refine hG.new L fun k hk => ?_
        rcases hL k hk with h | h
        · omega
        · exact (hvl k h).2
    refine ⟨((((keepsOthers_below nV1.out).trans ko2).trans hO3).trans hO4).from _, ⟨gl :: g6 :: vl.ownBlock.toList, fun k hk => ?_, hkb⟩, ⟨v22, ?_, hR4.row (by omega) h53, hR4.row (by omega) r3, ?_, fun y hy L hL => ?_⟩, ?_⟩
    · have h1 := HDK.out
      have hq : ∀ j, (Value.slice AB S.length cB).ownBlock = some j → w4.heap.size ≤ j ∧ j < pb := fun j hj => by have := HVB.out j hj; omega
      refine ⟨?_, ?_, fun hm => ?_⟩
      · rcases hM k hk with h | h
        · omega
        · exact (hvl k h).2
      · rcases List.mem_cons.1 hk with rfl | hk
        · omega
        · rcases List.mem_cons.1 hk with rfl | hk
          · omega
          · have := (hvl k (by simpa using hk)).1; omega
      · have hkk : k = gl ∨ k = g6 ∨ w6.heap.size + 3 ≤ k := by
          rcases List.mem_cons.1 hk with h | hk
          · exact .inl h
          · rcases List.mem_cons.1 hk with h | hk
            · exact .inr (.inl h)
            · exact .inr (.inr (hvl k (by simpa using hk)).1)
        rcases List.mem_cons.1 hm with h | hm
        · omega
        · rcases List.mem_cons.1 hm with h | hm
          · omega
          · rcases List.mem_cons.1 hm with h | hm
            · omega
            · have := hq k (by simpa using hm); omega
    · have e1 : ((encL nx mkL hash0 (esX (pre ++ [x]))).length : Int) = (x.p : Int) := by rw [esX_snoc, hG.place]
      have e2 : ((pre ++ [x]).length : Int) = (x.c : Int) := by rw [List.length_append, hG.count]; rfl
      have e3 : chL nx hash0 (esX (pre ++ [x])) = x.d := by rw [esX_snoc, hG.chain]
      rw [e1, e2, e3]
      exact r4
    · rw [hsnoc]
      refine hO2.of_block fun k o hk ho hc => ?_
      have := (hO2.lt k hk).1
      exact hR4.keep.2 k o (by simp; omega) (hR3.keep.2 k o (by simp; omega) ho hc) hc
    · have h1 := nV1.rd (key y hy ((gl :: g6 :: vl.ownBlock.toList) ++ L.filter (fun k => decide (k < V1.heap.size))) fun k hk => by
        rcases List.mem_append.1 hk with hk | hk
        · exact hM k hk
        · rw [List.mem_filter, decide_eq_true_iff] at hk
          rcases hL k hk.1 with h | h
          · exact .inl h
          · rcases hown2 with h2 | ⟨q, h2, h3⟩
            · exact .inr (h2 ▸ h)
            · rw [h2] at h; injection h with h; omega)
      have h2 : RdV V1 ((gl :: g6 :: vl.ownBlock.toList) ++ L) y.u y.e := h1.more fun k hk hkn hm => hkn (by
        rcases List.mem_append.1 hm with hm | hm
        · exact List.mem_append_left _ hm
        · exact List.mem_append_right _ (by rw [List.mem_filter, decide_eq_true_iff]; exact ⟨hm, hk⟩))
      have hkb1 : KeepBut (gl :: g6 :: vl.ownBlock.toList) V1 V4 := ((kb2.more (by simp +contextual)).trans (hR3.keep.more (by simp))).trans (hR4.keep.more (by simp))
      exact (h2.keep (hkb1.more fun k hk => List.mem_append_left _ hk)).less fun k hk => List.mem_append_right _ hk
    · have hb2 : Below w.heap.size V1 V2 := (Below.refl _ V1).grown hg2 (by have := nV1.out.size; have := hKA.1; omega) (fun k hk => by have := hvl k hk; omega)
      have := hKA.1
      have hh := (((hbV.trans (nV1.out.mono (by omega))).trans hb2).trans (hR3.below.mono (by omega))).trans (hR4.below.mono (by omega))
      rwa [hgl] at hh
  case done =>
    rintro D xs V hD hS ⟨⟨vl, hI⟩, hbV⟩ hDef
    have hxs : esX xs = es := IsLog.unique nx mkL hS HES.out
    have hlx : xs.length = es.length := by rw [← hxs, esX_length]
    have hgl6 := HSZ.out
    have hp := HES.out.at'.length_le
    obtain ⟨p, hpe⟩ := hid_ex (encL nx mkL hash0 es).length
    have hrow := hI.log
    rw [hxs, hlx, hpe.out] at hrow
    rw [hpe.out] at hp
    have c5 := hI.v5.cell (i := 0) (by omega)
    have c0 : V.cell? ⟨gl, 0, none⟩ = some (.int .i64 (p : Int)) := hrow.cell (i := 0) (by omega)
    have hdV := HD.out.new (NewT.of (show Below w.heap.size w V from by first | exact hbV | (rw [hgl]; exact hbV)))
    gi_upto_region 10 with fail
    refine wpIn_region_lit ?_
    refine wpListIn_wpW (by kernel_rfl) (by simp) rfl (fun K hK => ?_)
    refine opr_mvV (.inl rfl) rfl (hK _ _ ?_)
    clear hK K
    simp only [Act.put, List.setIfInBounds_toArray, List.set_cons_zero, List.set_cons_succ]
    refine wpListIn_wpW (by kernel_rfl) (by simp) rfl (fun K hK => ?_)
    refine opr_ld1 Tryd.underlying25 rfl rfl rfl c5 (hK _ _ ?_)
    clear hK K
    simp only [Act.put, List.setIfInBounds_toArray, List.set_cons_zero, List.set_cons_succ]
    refine wpListIn_wpW (by kernel_rfl) (by simp) rfl (fun K hK => ?_)
    refine opr_nilc rfl rfl (hK _ _ ?_)
    clear hK K
    simp only [Act.put, List.setIfInBounds_toArray, List.set_cons_zero, List.set_cons_succ]
    refine wpListIn_wpW (by kernel_rfl) (by simp) rfl (fun K hK => ?_)
    refine opr_fldG0 rfl rfl (hK _ _ ?_)
    clear hK K
    simp only [Act.put, List.setIfInBounds_toArray, List.set_cons_zero, List.set_cons_succ]
    refine wpListIn_wpW (by kernel_rfl) (by simp) rfl (fun K hK => ?_)
    refine opr_fldE0 rfl rfl (hK _ _ ?_)
    clear hK K
    simp only [Act.put, List.setIfInBounds_toArray, List.set_cons_zero, List.set_cons_succ]
    refine wpListIn_wpW (by kernel_rfl) (by simp) rfl (fun K hK => ?_)
    refine opr_ld1 Tryd.underlying3 rfl rfl rfl c0 (hK _ _ ?_)
    clear hK K
    simp only [Act.put, List.setIfInBounds_toArray, List.set_cons_zero, List.set_cons_succ]
    refine wpListIn_wpW (by kernel_rfl) (by simp) rfl (fun K hK => ?_)
    refine opr_call rfl Tryd.func32 (by kernel_rfl) (by kernel_rfl) (by simp only [List.map_toArray, List.map_cons, List.map_nil, eval_tmp]; rfl) ((Cut_k dk v room S n p V hdV hp).mono ?_)
    rintro _ V1 ⟨rfl, hO1, v', hD1, hA1⟩
    refine ⟨_, rfl, hK _ _ ?_⟩
    clear hK K
    refine wpListIn_endW rfl ?_
    simp only [Act.put, List.setIfInBounds_toArray, List.set_cons_zero, List.set_cons_succ]
    go_simp
    have hDef1 := hO1.same _ _ hDef rfl
    gi_upto_region 11 with fail
    have hd1n : gl ∉ dk :: v.ownBlock.toList := by
      have h1 := HDK.out
      simp
      refine ⟨by omega, fun h => ?_⟩
      have := (HD.out.own.lt _ h).2
      omega
    have hd5 : gl + 1 ∉ dk :: v.ownBlock.toList := by
      have h1 := HDK.out
      simp
      refine ⟨by omega, fun h => ?_⟩
      have := (HD.out.own.lt _ h).2
      omega
    have hd6 : g6 ∉ dk :: v.ownBlock.toList := by
      have h1 := HDK.out
      simp
      refine ⟨by omega, fun h => ?_⟩
      have := (HD.out.own.lt _ h).2
      omega
    have V51 := Lib.hid (hD1.row hd5 hI.v5)
    have V61 := Lib.hid (hD1.row hd6 hI.v6)
    have HI := Lib.hid hI
    have HA1 := Lib.hid hA1
    clear hI c5 c0 hA1
    refine wpIn_wide.2 ?_
    refine wp_region_rely (NewT) [SV.eq (.pointer (some ⟨gl, 0, none⟩)), SV.eq (vl), SV.eq (.pointer (some ⟨gl, 0, none⟩)), SV.eq (vl)] [([(5, none)], none), ([(6, none)], none), ([(34, some 0)], none), ([(35, some 1)], none)] 36 rfl (by kernel_rfl) rfl (by kernel_rfl) (by kernel_rfl) rfl NewT.trans (NewT.drew _) (Nat.le_of_ble_eq_true rfl) ⟨?_, ?_, ?_, ?_, trivial⟩ ?_
    · exact fun a wx hT hF K hK => rely_wp rfl (opr_ldPL (hT.row V51.out) (by decide) rfl rfl hF.1 (hK _ _ (NewT.refl _) rfl))
    · exact fun a wx hT hF K hK => rely_wp rfl (opr_ldSs (hT.row V61.out) (by decide) rfl rfl hF.1 (hK _ _ (NewT.refl _) rfl))
    · exact fun a wx hT hF K hK => rely_wp rfl (opr_move (.inr rfl) (hK _ _ (NewT.refl _) hF.1))
    · exact fun a wx hT hF K hK => rely_wp rfl (opr_move (.inr rfl) (hK _ _ (NewT.refl _) hF.1))
    · intro wx hT
      iterate 4 (intro u h; obtain rfl := Eq.symm (h (by simp)); clear h)
      refine relyEnd_nil rfl ?_
      simp only [Act.put, List.setIfInBounds_toArray, List.set_cons_zero, List.set_cons_succ]
      refine opr_move (.inr rfl) ?_
      go_simp
      have hNx := NewT.of hT.out
      have hDx := hNx.out.block D (Array.getElem?_eq_some_iff.1 hDef1).1 |>.trans hDef1
      gi_wp2
      refine ⟨by simp, .inl ⟨_, _, rfl, run_takeDeferred hDx, ?_⟩⟩
      refine ⟨_, results_3v rfl rfl rfl rfl, ?_⟩
      have hnw : NewT w V := NewT.of (show Below w.heap.size w V from by first | exact hbV | (rw [hgl]; exact hbV))
      have hdkw := HDK.out
      have hvsz := hnw.out.size
      have kp : ∀ L, KeepBut L wx (wx.putObj D (.deferred none)) := fun L => KeepBut.putObj hDx rfl
      have dp : DStep dk v' wx (wx.putObj D (.deferred none)) v' := ⟨below_putObj (by omega) _, kp _, .inl rfl⟩
      refine ⟨gl, v', vl, xs.map fun x => (x.u, x.e), rfl, by omega, (DStep.new hdkw.2 hnw).trans (hD1.trans ((DStep.new (by have := hD1.below.size; omega) hNx).trans dp)), ⟨?_, ?_, HES.out.ok, hD1.apart HI.out.log.lt hd1n, by omega⟩, by rw [List.map_map]; exact hxs, fun L hL => ?_⟩
      · rw [hpe.out]
        exact (kp []).row (by simp) (hNx.row (hD1.row hd1n hrow))
      · have ht : S.take p = encL nx mkL hash0 es := by
          have := List.prefix_iff_eq_take.1 HES.out.at'
          rw [hpe.out] at this
          exact this.symm
        have := (HA1.out.new hNx).keep (kp []) (by simp) (by simp)
        rw [ht] at this
        rw [hpe.out]
        exact this
      · have hall : ∀ k ∈ (dk :: v.ownBlock.toList) ++ L.filter (fun k => decide (k < V.heap.size)), k ≤ w6.heap.size + 2 := fun k hk => by
          rcases List.mem_append.1 hk with hk | hk
          · rcases List.mem_cons.1 hk with rfl | hk
            · omega
            · have := (HD.out.own.lt k (by simpa using hk)).2; omega
          · rw [List.mem_filter, decide_eq_true_iff] at hk
            rcases hL k hk.1 with h | h | h
            · omega
            · omega
            · rcases hD1.own with h2 | ⟨q, h2, h3⟩
              · have := (HD.out.own.lt k (h2 ▸ h)).2; omega
              · rw [h2] at h; injection h with h; omega
        have h1 : PartsAt V ((dk :: v.ownBlock.toList) ++ L.filter (fun k => decide (k < V.heap.size))) vl (xs.map fun x => (x.u, x.e)) := by
          refine ValsAt.parts ?_ ?_
          · rw [List.map_map]
            exact HI.out.own.at' fun k hk => by have := hall k hk; omega
          · intro y hy
            obtain ⟨x, hx, rfl⟩ := List.mem_map.1 hy
            exact HI.out.ent x hx _ fun k hk => .inl (hall k hk)
        have h2 : PartsAt V ((dk :: v.ownBlock.toList) ++ L) vl (xs.map fun x => (x.u, x.e)) := h1.more fun k hk hkn hm => hkn (by
          rcases List.mem_append.1 hm with hm | hm
          · exact List.mem_append_left _ hm
          · exact List.mem_append_right _ (by rw [List.mem_filter, decide_eq_true_iff]; exact ⟨hm, hk⟩))
        have h3 : PartsAt V1 ((dk :: v.ownBlock.toList) ++ L) vl (xs.map fun x => (x.u, x.e)) := h2.keep (hD1.keep.more fun k hk => List.mem_append_left _ hk)
        exact ((hNx.parts h3).keep (kp _)).more fun k _ hk hm => hk (List.mem_append_right _ hm)
end Go.Proofs.YtbejolbknimmmaaDoor
