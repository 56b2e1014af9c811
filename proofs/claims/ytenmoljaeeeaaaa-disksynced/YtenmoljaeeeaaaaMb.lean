/- DiskSynced, walked. -/
import Derived.Test.YtenmoljaeeeaaaaMa
set_option linter.all false
namespace Go.Proofs.Ytenmoljaeeeaaaa
open Go Go.RowKit
set_option maxRecDepth 8000
set_option linter.all false
theorem crashN_all (keep : Int) (n : Nat) : crashN keep n n = n := by unfold crashN; omega
/-- A crash of a disk that is synced. -/
theorem Crash_all (g : Nat) (v : Value) (room : Nat) (S : List UInt8) (keep : Int) (w : World) (h : DiskAt w g v room S S.length) : Calls Try.prog 12 #[.pointer (some ⟨g, 0, none⟩), .int .i64 keep] w fun e w' => e = .returned (.tuple #[]) ∧ ∃ v', DStep g v w w' v' ∧ DiskAt w' g v' room S S.length := by
  refine (Crash_c g v room S S.length keep w h).mono ?_
  rintro e w' ⟨rfl, v', hD, hA⟩
  rw [crashN_all, List.take_length] at hA
  exact ⟨rfl, v', hD, hA⟩
set_option maxHeartbeats 4000000 in
theorem DiskSynced_walk (room : Int) (v1 : Value) (l1 : List UInt8) (v2 : Value) (l2 : List UInt8) (keep : Int) (w : World) (h1 : RdV w [] v1 l1) (h2 : RdV w [] v2 l2) : Calls Try.prog 7 #[.int .i64 room, v1, v2, .int .i64 keep] w fun e w' => e = .returned (.bool true) ∧ Below w.heap.size w w' := by
  have R1 := Lib.hid h1
  have R2 := Lib.hid h2
  obtain ⟨A1, c1, rfl, _⟩ := h1
  obtain ⟨A2, c2, rfl, _⟩ := h2
  by_cases g1 : 300 < (l1.length : Int)
  · go_enter Try.func7, Try.ntmps7
    go_wp2_with (go_at_call 8; refine (alive8_c w).eq.mono ?_; rintro _ w1 ⟨rfl, hN1⟩)
    go_ret
    exact ⟨rfl, hN1⟩
  by_cases g2 : 300 < (l2.length : Int)
  · go_enter Try.func7, Try.ntmps7
    go_wp2_with (go_at_call 8; refine (alive8_c w).eq.mono ?_; rintro _ w1 ⟨rfl, hN1⟩)
    go_ret
    exact ⟨rfl, hN1⟩
  by_cases g3 : room < 600
  · go_enter Try.func7, Try.ntmps7
    go_wp2_with (go_at_call 8; refine (alive8_c w).eq.mono ?_; rintro _ w1 ⟨rfl, hN1⟩)
    go_ret
    exact ⟨rfl, hN1⟩
  by_cases g4 : 65536 < room
  · go_enter Try.func7, Try.ntmps7
    go_wp2_with (go_at_call 8; refine (alive8_c w).eq.mono ?_; rintro _ w1 ⟨rfl, hN1⟩)
    go_ret
    exact ⟨rfl, hN1⟩
  obtain ⟨r, rfl⟩ : ∃ r : Nat, room = r := ⟨room.toNat, by omega⟩
  have hsum : (l1.length : Int) + (l2.length : Int) = ((l1 ++ l2).length : Int) := by simp
  have hwr : IntKind.i64.wrap ((l1 ++ l2).length : Int) = ((l1 ++ l2).length : Int) := IntWalk.i64_in _ (by rw [← hsum]; omega)
  have b1 : l1.length ≤ (l1 ++ l2).length := by simp
  have bnd : Hid ((l1 ++ l2).length ≤ r ∧ 600 ≤ r ∧ r ≤ 65536 ∧ l1.length ≤ 300 ∧ l2.length ≤ 300) := Lib.hid (by simp; omega)
  have B1 := Lib.hid b1
  clear b1
  obtain ⟨S, hS⟩ := hid_ex (l1 ++ l2)
  rw [hS.out] at hsum hwr bnd B1
  generalize hm : S.length = m at *
  have Hm := Lib.hid hm
  clear hm
  have t1 : Hid True := Lib.hid trivial
  have s1 : Hid True := Lib.hid trivial
  have x1 : Hid True := Lib.hid trivial
  go_enter Try.func7, Try.ntmps7
  go_wp2_with (first
    | (go_at_call 8; refine (alive8_c w).eq.mono ?_; rintro _ w1 ⟨rfl, hN1⟩; have N1 : Hid (NewT w w1) := Lib.hid hN1; have Q1 := Lib.hid hN1.size; clear hN1)
    | (go_at_call 10; refine (New_c r (by have := bnd.out; omega) (by have := bnd.out; omega) w1).mono ?_; rintro _ w2 ⟨rfl, hN, hD⟩; have H2 := Lib.hid hD; have N2 := Lib.hid (NewT.trans _ _ _ N1.out hN); clear hN hD)
    | (go_at_call 13; clear t1; refine (Write_ok _ _ r [] 0 _ l1 _ H2.out (N2.out.rd R1.out) (by have := bnd.out; simp; omega)).mono ?_; rintro _ w3 ⟨rfl, v3, hD, hA⟩; have H3 : Hid (DiskAt w3 w1.heap.size v3 r l1 0) := Lib.hid hA; have N3 := Lib.hid (hD.newT N2.out Q1.out); clear hD hA)
    | (go_at_call 13; refine (Write_ok _ _ r l1 0 _ l2 _ H3.out (N3.out.rd R2.out) (by have := bnd.out; omega)).mono ?_; rintro _ w4 ⟨rfl, v4, hD, hA⟩; rw [hS.out] at hA; have H4 := Lib.hid hA; have N4 := Lib.hid (hD.newT N3.out Q1.out); clear hD hA)
    | (go_at_call 11; refine (Sync_c _ _ r S 0 _ H4.out).mono ?_; rintro _ w5 ⟨rfl, v5, hD, hA⟩; have H5 := Lib.hid hA; have N5 := Lib.hid (hD.newT N4.out Q1.out); clear hD hA)
    | (go_at_call 12; clear s1; refine (Crash_all _ _ r S keep _ H5.out).mono ?_; rintro _ w6 ⟨rfl, v6, hD, hA⟩; have H6 := Lib.hid hA; have N6 := Lib.hid (hD.newT N5.out Q1.out); clear hD hA)
    | (go_at_call 15; clear x1; refine Calls.mono (DBytes_c _ _ r S _ _ H6.out) ?_; rintro _ w7 ⟨v7, rfl, hN, hv⟩; obtain ⟨A7, c7, rfl⟩ := rdV_form (FreshB.rd hv); rw [Hm.out]; have H7 := Lib.hid (H6.out.new hN); have N7 := Lib.hid (NewT.trans _ _ _ N6.out hN); clear hN hv)
    | (go_at_call 14; refine (Cut_ok _ _ r S _ l1.length _ H7.out (by rw [Hm.out]; exact B1.out)).mono ?_; rintro _ w8 ⟨rfl, v8, hD, hA⟩; rw [← hS.out, List.take_left] at hA; have H8 := Lib.hid hA; have N8 := Lib.hid (hD.newT N7.out Q1.out); clear hD hA)
    | (go_at_call 12; refine (Crash_all _ _ r l1 keep _ H8.out).mono ?_; rintro _ w9 ⟨rfl, v9, hD, hA⟩; have H9 := Lib.hid hA; have N9 := Lib.hid (hD.newT N8.out Q1.out); clear hD hA)
    | (go_at_call 15; refine Calls.mono (DBytes_c _ _ r l1 _ _ H9.out) ?_; rintro _ wa ⟨va, rfl, hN, hv⟩; have HA := Lib.hid (H9.out.new hN); have NA := Lib.hid (NewT.trans _ _ _ N9.out hN); have VA := Lib.hid (FreshB.rd hv); clear hN hv)
    | (go_at_call 22; refine (Bytes_cv _ _ l1 l1 _ VA.out (NA.out.rd R1.out) (by have := bnd.out; omega) (by have := bnd.out; omega)).eq.mono ?_; rintro _ wb ⟨rfl, hN⟩; have HB := Lib.hid (HA.out.new hN); have NB := Lib.hid (NewT.trans _ _ _ NA.out hN); clear hN; have dt : decide (l1 = l1) = true := by simp)
    | (go_at_call 16; refine (Lasts_c _ _ r _ _ _ HB.out).eq.mono ?_; rintro _ wc ⟨rfl, hN⟩; have NC := Lib.hid (NewT.trans _ _ _ NB.out hN); clear hN))
  go_ret
  exact ⟨rfl, NC.out⟩
end Go.Proofs.Ytenmoljaeeeaaaa
