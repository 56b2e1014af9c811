import Derived.Test.YtpoebajpmkcjdaaDoorA1
import Derived.Test.YtpoebajpmkcjdaaDoorMem
import Derived.StillTactics
namespace Go.Proofs.YtpoebajpmkcjdaaDoor
open Go.RowKit
attribute [local go_sem] u32_add u32_xor u32_and u32_or u32_not signed_u32 wrap_uN rowA_at

/-- Eight numbers as the model has them. -/
def uF (s : Nat → BitVec 32) : Nat → Value := fun i => .int .u32 (uN (s i))
theorem uF_at (s : Nat → BitVec 32) (i : Nat) : uF s i = .int .u32 (uN (s i)) := rfl
attribute [local go_sem] uF_at
structure St where
  a : BitVec 32
  b : BitVec 32
  c : BitVec 32
  d : BitVec 32
  e : BitVec 32
  f : BitVec 32
  g : BitVec 32
  h : BitVec 32
def St.get (s : St) : Nat → BitVec 32
  | 0 => s.a | 1 => s.b | 2 => s.c | 3 => s.d | 4 => s.e | 5 => s.f | 6 => s.g | 7 => s.h | _ => 0
def St.of (f : Nat → BitVec 32) : St := ⟨f 0, f 1, f 2, f 3, f 4, f 5, f 6, f 7⟩
def St.one (s : St) (k w : BitVec 32) : BitVec 32 := s.h + bs1 s.e + chs s.e s.f s.g + k + w
def St.two (s : St) : BitVec 32 := bs0 s.a + maj s.a s.b s.c
def St.next (s : St) (k w : BitVec 32) : St := ⟨s.one k w + s.two, s.a, s.b, s.c, s.d + s.one k w, s.e, s.f, s.g⟩
def runTo (K W : Nat → BitVec 32) (s : St) : Nat → St
  | 0 => s
  | t + 1 => (runTo K W s t).next (K t) (W t)

theorem cell_drew {w : World} {a : Addr} {v : Value} (h : w.cell? a = some v) : w.drew.cell? a = some v := h
set_option maxHeartbeats 800000 in
theorem rounds_any (K s W : Nat → BitVec 32) (w : World) (h1 : 1 < w.heap.size)
    (hK : ∀ i, i < 64 → w.cell? ⟨1, i, none⟩ = some (.int .u32 (uN (K i)))) :
    Calls Tryd.prog 36 #[.agg (rowA 8 (uF s)), .agg (rowA 64 (uF W))] w fun e w' => e = .returned (.agg (rowA 8 (uF (runTo K W (St.of s) 64).get))) ∧ Below w.heap.size w w' := by
  have HK := Lib.hid hK
  clear hK
  go_enter Tryd.func36, Tryd.ntmps36
  go_wp2
  have r0 := ((rowIs_box w 23 8 (uF s)).alloc (.cells (rowA 64 (uF W)) 59)).alloc (.cells (rowA 8 fun _ => .int .u32 0) 23)
  have r1 := (rowIs_box (w.alloc (.cells (rowA 8 (uF s)) 23)) 59 64 (uF W)).alloc (.cells (rowA 8 fun _ => .int .u32 0) 23)
  have r2 := rowIs_box ((w.alloc (.cells (rowA 8 (uF s)) 23)).alloc (.cells (rowA 64 (uF W)) 59)) 23 8 fun _ => .int .u32 0
  have hB : Below w.heap.size w (((w.alloc (.cells (rowA 8 (uF s)) 23)).alloc (.cells (rowA 64 (uF W)) 59)).alloc (.cells (rowA 8 fun _ => .int .u32 0) 23)) :=
    (((Below.refl _ w).alloc (Nat.le_refl _) _).alloc (by simp) _).alloc (by simp; omega) _
  rw [World.size_alloc] at r1 r2
  rw [World.size_alloc] at r2
  rw [show (#[Value.int IntKind.u32 0, Value.int IntKind.u32 0, Value.int IntKind.u32 0, Value.int IntKind.u32 0, Value.int IntKind.u32 0, Value.int IntKind.u32 0, Value.int IntKind.u32 0, Value.int IntKind.u32 0] : Array Value) = rowA 8 (fun _ => .int .u32 0) from rfl]
  generalize (((w.alloc (.cells (rowA 8 (uF s)) 23)).alloc (.cells (rowA 64 (uF W)) 59)).alloc (.cells (rowA 8 fun _ => .int .u32 0) 23)) = W0 at r0 r1 r2 hB ⊢
  have c0 := r0.cell (i := 0) (by omega)
  have c1 := r0.cell (i := 1) (by omega)
  have c2 := r0.cell (i := 2) (by omega)
  have c3 := r0.cell (i := 3) (by omega)
  have c4 := r0.cell (i := 4) (by omega)
  have c5 := r0.cell (i := 5) (by omega)
  have c6 := r0.cell (i := 6) (by omega)
  have c7 := r0.cell (i := 7) (by omega)
  clear r0
  go_still (by kernel_rfl)
  clear c0 c1 c2 c3
  replace c4 := cell_drew c4
  replace c5 := cell_drew c5
  replace c6 := cell_drew c6
  replace c7 := cell_drew c7
  replace r1 := r1.drew
  replace r2 := r2.drew
  replace hB := hB.drew
  go_wp2
  change Code.wp _ _ _ _ W0.drew
  generalize W0.drew = W1 at c4 c5 c6 c7 r1 r2 hB ⊢
  go_still (by kernel_rfl)
  clear c4 c5 c6 c7
  replace r1 := r1.drew
  replace r2 := r2.drew
  replace hB := hB.drew
  go_wp2
  change Code.wp _ _ _ _ W1.drew
  generalize W1.drew = W2 at r1 r2 hB ⊢
  go_loopw [5, 6, 7, 8, 9, 10, 11, 12, 32] (fun a b c d e f g h i wr => ∃ t : Nat, ∃ x : St, t ≤ 64 ∧ i = .int .i64 t ∧ Hid (x = runTo K W (St.of s) t) ∧ a = .int .u32 (uN x.a) ∧ b = .int .u32 (uN x.b) ∧ c = .int .u32 (uN x.c) ∧ d = .int .u32 (uN x.d) ∧ e = .int .u32 (uN x.e) ∧ f = .int .u32 (uN x.f) ∧ g = .int .u32 (uN x.g) ∧ h = .int .u32 (uN x.h) ∧ wr.rowIs (w.heap.size + 1) 59 64 (uF W) ∧ wr.rowIs (w.heap.size + 1 + 1) 23 8 (fun _ => .int .u32 0) ∧ Below w.heap.size w wr) (fun _ _ _ _ _ _ _ _ i _ => 64 - (intOf i).toNat)
  case atStart => exact ⟨0, St.of s, by omega, rfl, rfl, rfl, rfl, rfl, rfl, rfl, rfl, rfl, rfl, r1, r2, hB⟩
  case round =>
    obtain ⟨t, x, ht, rfl, hx, rfl, rfl, rfl, rfl, rfl, rfl, rfl, rfl, q1, q2, qB⟩ := hrel
    clear r1 r2 hB
    by_cases hlt : t < 64
    · have cW := q1.cell (i := t) (by omega)
      have cK := (qB.cell (p := ⟨1, t, none⟩) h1).trans (HK.out t hlt)
      have i64 : (t : Int) < 64 := by omega
      go_wp2
      refine wp_region_still_lit (by kernel_rfl) (by kernel_rfl) ?_
      iterate 2 (refine wpStill_step (fun K hK => ?_); go_simp; (try go_bits); refine hK _ ?_; clear hK K)
      (refine wpStill_step (fun K hK => ?_); go_simp; refine ⟨_, ((bs1_any _ _).mono fun _ _ h => ⟨h.1, h.2.symm⟩), hK _ ?_⟩; clear hK K)
      iterate 4 (refine wpStill_step (fun K hK => ?_); go_simp; (try go_bits); refine hK _ ?_; clear hK K)
      (refine wpStill_step (fun K hK => ?_); go_simp; refine ⟨_, ((chs_any _ _ _ _).mono fun _ _ h => ⟨h.1, h.2.symm⟩), hK _ ?_⟩; clear hK K)
      iterate 10 (refine wpStill_step (fun K hK => ?_); go_simp; (try go_bits); refine hK _ ?_; clear hK K)
      refine wpStill_nil ?_
      go_wp2_with (first | (go_at_call 54; refine (bs0_any _ _).mono ?_; rintro e w' ⟨rfl, rfl⟩) | (go_at_call 55; refine (maj_any _ _ _ _).mono ?_; rintro e w' ⟨rfl, rfl⟩))
      go_roundw
      case rel => exact ⟨t + 1, x.next (K t) (W t), by omega, by go_num, Lib.hid (by rw [hx.out]; rfl), rfl, rfl, rfl, rfl, rfl, rfl, rfl, rfl, q1.drew, q2.drew, qB.drew⟩
      case measure => simp [intOf]; omega
    · obtain rfl : t = 64 := by omega
      have hsz : (Tryd.prog.info? 23).map (·.size) = some 8 := by kernel_rfl
      go_wp2_with (refine wpList_store_mid rfl 23 (.tmp 4) (.tmp 80) rfl (w.heap.size + 1 + 1) 0 (rowA 8 (uF x.get)) rfl rfl (by rw [rowA_size]; exact there_row q2) (by rw [rowA_size]; exact hsz) (rowA_one _ _ fun _ => rfl) ?_)
      exact bodyPost_ret (results_row rfl _ rfl (rowIs_setAll q2 (uF x.get)) Tryd.underlying23 hsz) rfl ⟨by rw [hx.out], below_setCells _ (by omega) _ _ _ qB⟩
end Go.Proofs.YtpoebajpmkcjdaaDoor
