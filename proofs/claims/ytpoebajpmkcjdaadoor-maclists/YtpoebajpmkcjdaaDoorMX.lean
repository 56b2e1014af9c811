/- The reference's Text: a domain's byte, and of each part how many bytes it has, and these. -/
import Derived.Test.YtpoebajpmkcjdaaDoorMS
import Derived.Test.YtpoebajpmkcjdaaDoorMN
import Derived.Test.YtpoebajpmkcjdaaDoorM8
namespace Go.Proofs.YtpoebajpmkcjdaaDoor
open Go Go.RowKit

theorem own_one (b : UInt8) (w : World) : (svOwn w [b]).pred (.slice (some ⟨w.heap.size, 0, none⟩) 1 1) (w.alloc (.cells #[.int .u8 (bN b)] 5)) :=
  ⟨rfl, .inr ⟨w.heap.size, 1, #[.int .u8 (bN b)], rfl, Nat.le_refl _, World.alloc_heap_new _ _, Nat.le_refl _, by unfold maxLen; omega, rfl, rfl⟩⟩
theorem cnt_flat (ls : List (List UInt8)) : ((ls.flatMap cntP).flatten).length = 4 * ls.length + ls.flatten.length := by
  induction ls with
  | nil => rfl
  | cons x ls ih => simp [cntP, hiL_length] at ih ⊢; omega
theorem take_flat (ls : List (List UInt8)) (k : Nat) : (ls.take k).flatten.length ≤ ls.flatten.length := by
  have h1 : ls.flatten = (ls.take k).flatten ++ (ls.drop k).flatten := by rw [← List.flatten_append, List.take_append_drop]
  have h2 := congrArg List.length h1
  rw [List.length_append] at h2
  omega
theorem tk (ls : List (List UInt8)) (k : Nat) (x : List UInt8) (h : ls[k]? = some x) : ls.take (k + 1) = ls.take k ++ [x] := by rw [List.take_add_one, h]; rfl
set_option maxHeartbeats 1000000 in
theorem RText_any (n : Int) (pv : Value) (ls : List (List UInt8)) (w : World) (hp : Parts w pv ls) (hlen : ls.length ≤ 1000) (htot : ls.flatten.length ≤ 1000) :
    Cv 34 #[.int .i64 n, pv] w (svOwn w (ofL n ls)) := by
  unfold Cv
  obtain ⟨ps, ⟨A, cap, rfl, hpc, hpm, hA, hR⟩, rfl⟩ := hp
  obtain ⟨ls, hls⟩ : ∃ ls, ls = ps.map (·.2) := ⟨_, rfl⟩
  rw [← hls] at hlen htot ⊢
  unfold maxLen at hpm
  obtain ⟨m, hm⟩ : ∃ m, m = ps.length := ⟨_, rfl⟩
  have hml : m = ls.length := by rw [hls, hm]; simp
  rw [← hm] at hpc
  have HA := Lib.hid (show 0 < m → ∃ b o, A = some ⟨b, o, none⟩ ∧ ∀ i x, ps[i]? = some x → w.cell? ⟨b, o + i, none⟩ = some x.1 from fun h => by
    obtain ⟨b, o, h1, _, h2⟩ := hA (by omega)
    exact ⟨b, o, h1, h2⟩)
  have HR := Lib.hid hR
  have Hls := Lib.hid hls
  have Hml := Lib.hid hml
  have hm1 : m ≤ 1000 := by omega
  have hdb := dB_eq n
  rw [← hm]
  have Hm := Lib.hid hm
  clear hA hR hls hml hm
  go_enter Tryd.func34, Tryd.ntmps34
  go_wp2
  clear hdb
  have o0 := own_one (dB n) w
  have hB : Below w.heap.size w (w.alloc (.cells #[.int .u8 (bN (dB n))] 5)) := (Below.refl _ w).alloc (Nat.le_refl _) _
  generalize w.alloc (.cells #[.int .u8 (bN (dB n))] 5) = W0 at o0 hB ⊢
  go_loopw [5, 6] (fun v i wr => ∃ k : Nat, k ≤ m ∧ i = .int .i64 k ∧ (svOwn w (ofL n (ls.take k))).pred v wr ∧ Below w.heap.size w wr) (fun _ i _ => m - (intOf i).toNat)
  case atStart => exact ⟨0, by omega, rfl, by simpa [ofL] using o0, hB⟩
  case round =>
    obtain ⟨k, hk, rfl, hown, qB⟩ := hrel
    clear o0 hB
    by_cases hlt : k < m
    · obtain ⟨b, o, rfl, hcells⟩ := HA.out (by omega)
      have hkl : k < ps.length := by rw [← Hm.out]; exact hlt
      have hx : ps[k]? = some ps[k] := List.getElem?_eq_getElem hkl
      generalize ps[k] = x at hx
      have hlt0 : b < w.heap.size := World.block_lt_of_cell? _ _ (hcells k x hx)
      have hcell := (qB.cell (p := ⟨b, o + k, none⟩) hlt0).trans (hcells k x hx)
      have hrd0 := HR.out x (List.mem_of_getElem? hx)
      have hlx : ls[k]? = some x.2 := by rw [Hls.out, List.getElem?_map, hx]; rfl
      have htk := tk ls k x.2 hlx
      have hle1 := take_flat ls (k + 1)
      have hle2 : (ls.take (k + 1)).length ≤ 1000 := by rw [List.length_take]; omega
      have hol := ofL_length n (ls.take (k + 1))
      have Hof : Hid (ofL n (ls.take (k + 1)) = ofL n (ls.take k) ++ hiL x.2.length 4 ++ x.2) := Lib.hid (by
        rw [htk]; simp [ofL, cntP])
      rw [Hof.out, List.length_append, List.length_append, hiL_length] at hol
      obtain ⟨A', c', hv', hlc, hcm, hr0⟩ := hrd0
      have Hrd : Hid (RdV w [] (.slice A' x.2.length c') x.2) := Lib.hid ⟨A', c', rfl, hlc, hcm, hr0⟩
      rw [hv'] at hcell
      have hwn : wN (x.2.length : Int) = x.2.length := wN_nat _ (by unfold maxLen at hcm; omega)
      have hxl : (ofL n (ls.take k)).length + 4 + x.2.length ≤ 900000 := by omega
      clear hol hkl hx hcells hr0 hv' hlx htk hle1 hle2 hlc hcm
      have hnum := RNumber_4 (x.2.length : Int) wr
      rw [hwn] at hnum
      have Hnum := Lib.hid hnum
      clear hnum hwn
      go_upto_region 5 with fail
      refine wp_region_lit ?_
      iterate 6 (refine wpList_plain rfl (fun K hK => ?_); go_simp; refine hK _ _ ?_; clear hK K)
      refine wpList_plain rfl (fun K hK => ?_)
      refine opr_cv Hnum.out rfl Tryd.func35 (by kernel_rfl) (by kernel_rfl) (by simp only [List.map_toArray, List.map_cons, List.map_nil]; rfl) ?_
      intro v22 wa hNa h22
      refine hK _ _ ?_
      clear hK K Hnum
      have owna := (svOwn w (ofL n (ls.take k))).stable _ _ _ hown hNa
      have hBa := qB.trans (hNa.out.mono qB.size)
      obtain ⟨v23, wb, hrun, ownb, _, hBb⟩ := run_append_two owna hBa.size (h22 [] (by simp)) (by rw [hiL_length]; omega) 24
      have hBB := hBa.trans hBb
      have hcellb := (hBb.cell (p := ⟨b, o + k, none⟩) hlt0).trans ((hNa.out.cell (p := ⟨b, o + k, none⟩) (Nat.lt_of_lt_of_le hlt0 qB.size)).trans hcell)
      clear owna hBa h22 hown hcell hNa hBb
      refine wpList_plain rfl (fun K hK => ?_)
      refine opr_append rfl rfl rfl hrun (hK _ _ ?_)
      clear hrun hK K
      refine wpList_plain rfl (fun K hK => ?_)
      refine opr_move (.inr rfl) (hK _ _ ?_)
      clear hK K
      refine wpList_nil ?_
      go_simp
      obtain ⟨v29, wc, hrun, ownc, _, hBc⟩ := run_append_two ownb hBB.size (Hrd.out.keep (KeepBut.below hBB)) (by rw [List.length_append, hiL_length]; omega) 24
      have Hown := Lib.hid ownc
      have HBc := Lib.hid (hBB.trans hBc)
      clear ownb ownc hBc
      go_upto_region 6 with fail
      refine wp_region_lit ?_
      iterate 5 (refine wpList_plain rfl (fun K hK => ?_); go_simp; refine hK _ _ ?_; clear hK K)
      refine wpList_plain rfl (fun K hK => ?_)
      refine opr_append rfl rfl rfl hrun (hK _ _ ?_)
      clear hrun hK K
      refine wpList_plain rfl (fun K hK => ?_)
      refine opr_move (.inr rfl) (hK _ _ ?_)
      clear hK K
      refine wpList_nil ?_
      go_simp
      go_wp2
      go_roundw
      case rel => exact ⟨k + 1, by omega, by go_num, by rw [Hof.out]; exact Hown.out, HBc.out⟩
      case measure => simp [intOf]; omega
    · obtain rfl : k = m := by omega
      go_wp2
      go_ret
      refine ⟨_, rfl, qB, ?_⟩
      rw [Hml.out, List.take_length] at hown
      exact hown
theorem RText_cv (n : Int) (pv : Value) (ls : List (List UInt8)) (w : World) (hp : Parts w pv ls) (hlen : ls.length ≤ 1000) (htot : ls.flatten.length ≤ 1000) :
    Cv 34 #[.int .i64 n, pv] w (svRd (ofL n ls)) :=
  Calls.mono (RText_any n pv ls w hp hlen htot) fun _ _ ⟨v, he, hN, h⟩ => ⟨v, he, hN, rdV_own h rfl (by simp)⟩
end Go.Proofs.YtpoebajpmkcjdaaDoor
