import Derived.Test.YtpoebajpmkcjdaaDoorA2
import Derived.Test.YtpoebajpmkcjdaaDoorA3
import Derived.Deep.RegionHeld3
import Derived.Deep.RegionWith
import Derived.Deep.DeepCutAuto
namespace Go.Proofs.YtpoebajpmkcjdaaDoor
open Go.RowKit
attribute [local go_sem] u32_add u32_xor u32_and u32_or u32_not signed_u32 wrap_uN uF_at

theorem info23 : (Tryd.prog.info? 23).map (·.size) = some 8 := by kernel_rfl

/-- A row of eight cells of type 23 that may be written. -/
def Row8 (W : World) (g : Nat) : Prop := ∃ f, W.rowIs g 23 8 f
theorem Row8_drew (W : World) (g : Nat) : Row8 W.drew g ↔ Row8 W g := Iff.rfl
theorem Row8_new (W : World) (f : Nat → Value) (g : Nat) (h : g = W.heap.size) : Row8 (W.alloc (.cells #[f 0, f 1, f 2, f 3, f 4, f 5, f 6, f 7] 23)) g := by subst h; exact ⟨f, rowIs_box W 23 8 f⟩
theorem Row8_zero (W : World) (g : Nat) (h : W.heap.size = g) : Row8 (W.alloc (.cells #[.int .u32 0, .int .u32 0, .int .u32 0, .int .u32 0, .int .u32 0, .int .u32 0, .int .u32 0, .int .u32 0] 23)) g := Row8_new W (fun _ => .int .u32 0) _ h.symm
theorem Row8_old (W : World) (o : Obj) (g : Nat) (h : Row8 W g) : Row8 (W.alloc o) g := by obtain ⟨f, h⟩ := h; exact ⟨f, h.alloc o⟩
theorem Row8_below {W W' : World} (h : Below W.heap.size W W') (g : Nat) (hg : Row8 W g) : Row8 W' g := by obtain ⟨f, r⟩ := hg; exact ⟨f, rowIs_below r h r.lt⟩
theorem run_store8 {W : World} {g : Nat} (h : Row8 W g) (f : Nat → BitVec 32) : (storeCells ⟨g, 0, none⟩ (rowA 8 (uF f)).toList).run Tryd.prog W = .ok () (W.setCells g 0 (rowA 8 (uF f)).toList) := by
  obtain ⟨z, r⟩ := h
  have := run_storeCells_cells (P := Tryd.prog) g 0 (rowA 8 (uF f)).toList 0 W (fun j hj => by simpa using (there_row r j (by rw [rowA_toList] at hj; simpa using hj)).1) (fun j hj => by simpa using (there_row r j (by rw [rowA_toList] at hj; simpa using hj)).2)
    (fun v hv => by rw [rowA_toList] at hv; obtain ⟨i, _, rfl⟩ := List.mem_map.1 hv; rfl)
  simpa using this
theorem Row8.setAll {W : World} {g : Nat} (h : Row8 W g) (f : Nat → Value) : (W.setCells g 0 (rowA 8 f).toList).rowIs g 23 8 f := by obtain ⟨z, r⟩ := h; exact rowIs_setAll r f
def mixed (s T : Nat → BitVec 32) (k : Nat) : Nat → BitVec 32 := fun i => if i < k then s i + T i else s i
theorem mixed_set (s T : Nat → BitVec 32) (k i : Nat) : (if i = k then Value.int .u32 (uN (s k + T k)) else uF (mixed s T k) i) = uF (mixed s T (k + 1)) i := by
  simp only [uF, mixed]
  by_cases h : i = k
  · subst h; simp
  · by_cases h2 : i < k
    · rw [if_neg h, if_pos h2, if_pos (by omega)]
    · rw [if_neg h, if_neg h2, if_neg (by omega)]
theorem schedule_near {B : Nat} {W0 : World} (l : List UInt8) (b o cap : Nat) (hcap : 64 ≤ cap) (hm : cap ≤ maxLen) (hb : b < B)
    (hc : ∀ i, i < 64 → W0.cell? ⟨b, o + i, none⟩ = some (.int .u8 (bN (bAt l i)))) (w : World) (hB : Below B W0 w) (hs : B ≤ w.heap.size) :
    Calls Tryd.prog 37 #[.slice (some ⟨b, o, none⟩) 64 cap] w fun e w' => e = .returned (.agg (rowA 64 (uF (wS l 48)))) ∧ Below B W0 w' ∧ (∀ g, Row8 w g → Row8 w' g) ∧ w.heap.size ≤ w'.heap.size :=
  (schedule_any l b o cap hcap hm w (by omega) (fun i hi => (hB.cell (p := ⟨b, o + i, none⟩) hb).trans (hc i hi))).mono fun _ _ h => ⟨h.1, hB.trans (h.2.mono hs), Row8_below h.2, h.2.size⟩
theorem rounds_near {B : Nat} {W0 : World} (K s W : Nat → BitVec 32) (h1 : 1 < B)
    (hK : ∀ i, i < 64 → W0.cell? ⟨1, i, none⟩ = some (.int .u32 (uN (K i)))) (w : World) (hB : Below B W0 w) (hs : B ≤ w.heap.size) :
    Calls Tryd.prog 36 #[.agg (rowA 8 (uF s)), .agg (rowA 64 (uF W))] w fun e w' => e = .returned (.agg (rowA 8 (uF (runTo K W (St.of s) 64).get))) ∧ Below B W0 w' ∧ (∀ g, Row8 w g → Row8 w' g) ∧ w.heap.size ≤ w'.heap.size :=
  (rounds_any K s W w (by omega) (fun i hi => (hB.cell (p := ⟨1, i, none⟩) h1).trans (hK i hi))).mono fun _ _ h => ⟨h.1, hB.trans (h.2.mono hs), Row8_below h.2, h.2.size⟩

attribute [local go_sem] Row8_drew Row8_zero run_store8
set_option maxHeartbeats 1000000 in
theorem Turn_any (K s : Nat → BitVec 32) (l : List UInt8) (b o cap : Nat) (hcap : 64 ≤ cap) (hm : cap ≤ maxLen) (w : World) (hb : b < w.heap.size) (h1 : 1 < w.heap.size)
    (hK : ∀ i, i < 64 → w.cell? ⟨1, i, none⟩ = some (.int .u32 (uN (K i))))
    (hc : ∀ i, i < 64 → w.cell? ⟨b, o + i, none⟩ = some (.int .u8 (bN (bAt l i)))) :
    Calls Tryd.prog 16 #[.agg (rowA 8 (uF s)), .slice (some ⟨b, o, none⟩) 64 cap] w fun e w' => e = .returned (.agg (rowA 8 (uF fun i => s i + (runTo K (wS l 48) (St.of s) 64).get i))) ∧ Below w.heap.size w w' := by
  have HK := Lib.hid hK
  have HC := Lib.hid hc
  clear hK hc
  go_enter Tryd.func16, Tryd.ntmps16
  go_wp2
  have r0 := (rowIs_box w 23 8 (uF s)).alloc (.cells (rowA 8 fun _ => .int .u32 0) 23)
  have r1 := rowIs_box (w.alloc (.cells (rowA 8 (uF s)) 23)) 23 8 fun _ => .int .u32 0
  have hB : Below w.heap.size w ((w.alloc (.cells (rowA 8 (uF s)) 23)).alloc (.cells (rowA 8 fun _ => .int .u32 0) 23)) :=
    ((Below.refl _ w).alloc (Nat.le_refl _) _).alloc (by simp) _
  have hs : ((w.alloc (.cells (rowA 8 (uF s)) 23)).alloc (.cells (rowA 8 fun _ => .int .u32 0) 23)).heap.size = w.heap.size + 2 := by simp
  rw [World.size_alloc] at r1
  rw [show (#[Value.int IntKind.u32 0, Value.int IntKind.u32 0, Value.int IntKind.u32 0, Value.int IntKind.u32 0, Value.int IntKind.u32 0, Value.int IntKind.u32 0, Value.int IntKind.u32 0, Value.int IntKind.u32 0] : Array Value) = rowA 8 (fun _ => .int .u32 0) from rfl]
  generalize ((w.alloc (.cells (rowA 8 (uF s)) 23)).alloc (.cells (rowA 8 fun _ => .int .u32 0) 23)) = W0 at r0 r1 hB hs ⊢
  have hB2 := Below.refl (w.heap.size + 2) W0
  have HB2 := Lib.hid hB2
  clear hB2
  have HK2 : Hid (∀ i, i < 64 → W0.cell? ⟨1, i, none⟩ = some (.int .u32 (uN (K i)))) := Lib.hid fun i hi => (hB.cell (p := ⟨1, i, none⟩) h1).trans (HK.out i hi)
  have HC2 : Hid (∀ i, i < 64 → W0.cell? ⟨b, o + i, none⟩ = some (.int .u8 (bN (bAt l i)))) := Lib.hid fun i hi => (hB.cell (p := ⟨b, o + i, none⟩) hb).trans (HC.out i hi)
  go_cut [5] (fun p wx => ∃ g : Nat, w.heap.size + 2 ≤ g ∧ p = .pointer (some ⟨g, 0, none⟩) ∧ wx.rowIs g 23 8 (uF (runTo K (wS l 48) (St.of s) 64).get) ∧ Below (w.heap.size + 2) W0 wx)
  case first =>
    have HS : Hid (∀ w' : World, Below (w.heap.size + 2) W0 w' → w'.cell? ⟨w.heap.size, 0, none⟩ = some (uF s 0) ∧ w'.cell? ⟨w.heap.size, 1, none⟩ = some (uF s 1) ∧ w'.cell? ⟨w.heap.size, 2, none⟩ = some (uF s 2) ∧ w'.cell? ⟨w.heap.size, 3, none⟩ = some (uF s 3) ∧ w'.cell? ⟨w.heap.size, 4, none⟩ = some (uF s 4) ∧ w'.cell? ⟨w.heap.size, 5, none⟩ = some (uF s 5) ∧ w'.cell? ⟨w.heap.size, 6, none⟩ = some (uF s 6) ∧ w'.cell? ⟨w.heap.size, 7, none⟩ = some (uF s 7)) := Lib.hid fun w' h => by
      have r := rowIs_below r0 h (by omega)
      exact ⟨r.cell (by omega), r.cell (by omega), r.cell (by omega), r.cell (by omega), r.cell (by omega), r.cell (by omega), r.cell (by omega), r.cell (by omega)⟩
    have c0 := r0.cell (i := 0) (by omega)
    have c1 := r0.cell (i := 1) (by omega)
    have c2 := r0.cell (i := 2) (by omega)
    have c3 := r0.cell (i := 3) (by omega)
    have c4 := r0.cell (i := 4) (by omega)
    have c5 := r0.cell (i := 5) (by omega)
    have c6 := r0.cell (i := 6) (by omega)
    have c7 := r0.cell (i := 7) (by omega)
    go_region_held3 (fun w' => w'.cell? ⟨w.heap.size, 0, none⟩ = some (uF s 0) ∧ w'.cell? ⟨w.heap.size, 1, none⟩ = some (uF s 1) ∧ w'.cell? ⟨w.heap.size, 2, none⟩ = some (uF s 2) ∧ w'.cell? ⟨w.heap.size, 3, none⟩ = some (uF s 3) ∧ w'.cell? ⟨w.heap.size, 4, none⟩ = some (uF s 4) ∧ w'.cell? ⟨w.heap.size, 5, none⟩ = some (uF s 5) ∧ w'.cell? ⟨w.heap.size, 6, none⟩ = some (uF s 6) ∧ w'.cell? ⟨w.heap.size, 7, none⟩ = some (uF s 7)) (first | with_reducible exact HS.out _ hb2 | with_reducible exact HS.out _ (hb2.alloc (by simp at hz1 hz2; omega) _) | with_reducible exact HS.out _ (below_setCells _ (by first | omega | (simp at hz1 hz2 ⊢; omega)) _ _ _ (hb2.alloc (by simp at hz1 hz2; omega) _)) | with_reducible exact HS.out _ (below_setCells _ (by first | omega | (simp at hz1 hz2 ⊢; omega)) _ _ _ hb2) | with_reducible exact HS.out _ hb1 | with_reducible exact HS.out _ (hb1.alloc (by simp at hz1; omega) _) | with_reducible exact HS.out _ HB2.out.drew | with_reducible exact HS.out _ (HB2.out.alloc (by omega) _).drew | with_reducible exact HS.out _ HB2.out | (trace "keep"; go_keep)) (first
      | (go_at_call 37; refine (schedule_near (B := w.heap.size + 2) (W0 := W0) l b o cap hcap hm (by omega) HC2.out _ (by first | with_reducible exact HB2.out.drew | with_reducible exact (HB2.out.alloc (by omega) _).drew) (by simp; omega)).mono ?_; rintro e w1 ⟨rfl, hb1, hg1, hz1⟩; (first | (have z1 := hg1 _ ((Row8_drew _ _).2 (Row8_zero W0 _ hs))) | skip))
      | (go_at_call 36; refine (rounds_near (B := w.heap.size + 2) (W0 := W0) K s _ (by omega) HK2.out _ (by first | with_reducible exact hb1 | with_reducible exact hb1.alloc (by simp at hz1; omega) _) (by simp at hz1 ⊢; omega)).mono ?_; rintro e w2 ⟨rfl, hb2, hg2, hz2⟩; (first | (have z2 := hg2 _ (Row8_zero w1 _ rfl)) | (have z2 := hg2 _ z1) | skip)))
    · go_wp2_with fail
      go_meet
      case rel => exact ⟨_, by simp at hz1 hz2; omega, rfl, (Row8_zero w2 _ rfl).setAll _, below_setCells _ (by simp at hz1 hz2; omega) _ _ _ (hb2.alloc (by simp at hz1 hz2; omega) _)⟩
    · go_wp2_with fail
      go_meet
      case rel => exact ⟨_, by simp at hz1; omega, rfl, z2.setAll _, below_setCells _ (by simp at hz1; omega) _ _ _ hb2⟩
    · go_wp2_with fail
      go_meet
      case rel => exact ⟨_, Nat.le_refl _, rfl, z2.setAll _, below_setCells _ (Nat.le_refl _) _ _ _ hb2⟩
  case rest =>
    obtain ⟨g, hg, rfl, q2, qB⟩ := hcut
    have q0 := rowIs_below r0 qB (by omega)
    have q1 := rowIs_below r1 qB (by omega)
    have qw : Below w.heap.size w wc := hB.trans (qB.mono (by omega))
    clear r0 r1 hB hs HB2 HK2 HC2 HK HC qB
    generalize HT : (runTo K (wS l 48) (St.of s) 64).get = T at q2
    have HT2 := Lib.hid HT
    clear HT
    go_wp2
    go_loopw [15] (fun i wr => ∃ k : Nat, k ≤ 8 ∧ i = .int .i64 k ∧ wr.rowIs w.heap.size 23 8 (uF (mixed s T k)) ∧ wr.rowIs (w.heap.size + 1) 23 8 (fun _ => .int .u32 0) ∧ wr.rowIs g 23 8 (uF T) ∧ Below w.heap.size w wr) (fun i _ => 8 - (intOf i).toNat)
    case atStart => exact ⟨0, by omega, rfl, q0, q1, q2, qw⟩
    case round =>
      obtain ⟨k, hk, rfl, r0, r1, r2, rB⟩ := hrel
      clear q0 q1 q2 qw
      by_cases hlt : k < 8
      · have c0 := r0.cell (i := k) (by omega)
        rw [uF_at, show mixed s T k k = s k by simp [mixed]] at c0
        have c2 := r2.cell (i := k) (by omega)
        have f0 := r0.frozen k
        have i8 : (k : Int) < 8 := by omega
        go_wp2
        refine wp_region_still_tail 8 (by kernel_rfl) (by kernel_rfl) ?_
        simp only [List.take_succ_cons, List.take_zero, List.drop_succ_cons, List.drop_zero]
        iterate 8 (refine wpStill_step (fun K hK => ?_); go_simp; (try go_bits); refine hK _ ?_; clear hK K)
        refine wpStill_nil ?_
        go_wp2
        go_roundw
        case rel => exact ⟨k + 1, by omega, by go_num, ((r0.set k _).congr fun i _ => mixed_set s T k i), r1.setOther (by simp) _, r2.setOther (by simp; omega) _, (rB.setCell (p := ⟨w.heap.size, k, none⟩) (by simp) _).drew⟩
        case measure => simp [intOf]; omega
      · obtain rfl : k = 8 := by omega
        have hR := rangeAt_row r0
        go_wp2_with (first
            | (refine wpList_load_mid rfl 23 (.tmp 2) rfl w.heap.size 0 rfl (rowA 8 (uF (mixed s T 8))).toList _ hR Tryd.underlying23 rfl (by rw [rowA_toList]; simpa using info23) ?_)
            | (refine wpList_store_mid rfl 23 (.tmp 4) (.tmp 27) rfl (w.heap.size + 1) 0 (rowA 8 (uF (mixed s T 8))) rfl rfl (by rw [rowA_size]; exact there_row r1) (by rw [rowA_size]; exact info23) (rowA_one _ _ fun _ => rfl) ?_))
        refine bodyPost_ret (results_row rfl _ rfl (rowIs_setAll r1 (uF (mixed s T 8))) Tryd.underlying23 info23) rfl ⟨?_, below_setCells _ (by omega) _ _ _ rB⟩
        rw [HT2.out]
        exact congrArg (fun z => Ending.returned (.agg z)) (rowA_congr fun i hi => by simp [uF, mixed, hi])
end Go.Proofs.YtpoebajpmkcjdaaDoor
