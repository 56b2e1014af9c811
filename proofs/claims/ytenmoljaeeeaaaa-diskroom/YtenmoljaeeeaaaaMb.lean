/- DiskSynced, walked. -/
import Derived.Test.YtenmoljaeeeaaaaMa
import Derived.Deep.Matrix
set_option linter.all false
namespace Go.Proofs.Ytenmoljaeeeaaaa
open Go Go.RowKit
set_option maxRecDepth 8000
set_option linter.all false
theorem crashN_all (keep : Int) (n : Nat) : crashN keep n n = n := by unfold crashN; omega
/-- A crash of a disk that is synced. -/
theorem Crash_all (g : Nat) (v : Value) (room : Nat) (S : List UInt8) (keep : Int) (w : World) (h : DiskAt w g v room S S.length) : Calls Try.prog 12 #[.pointer (some ⟨g, 0, none⟩), .int .i64 keep] w fun e w' => e = .returned (.tuple #[]) ∧ ∃ v', DStep g v w w' v' ∧ DiskAt w' g v' room S S.length := by
  refine (Crash_c g v room S S.length keep w h).mono ?_
  rintro e w' ⟨rfl, v', hD, hA⟩
  rw [crashN_all, List.take_length] at hA
  exact ⟨rfl, v', hD, hA⟩
set_option maxHeartbeats 4000000 in
theorem DiskSynced_walk (room : Int) (v1 : Value) (l1 : List UInt8) (v2 : Value) (l2 : List UInt8) (keep : Int) (w : World) (h1 : RdV w [] v1 l1) (h2 : RdV w [] v2 l2) : Calls Try.prog 7 #[.int .i64 room, v1, v2, .int .i64 keep] w fun e w' => e = .returned (.bool true) ∧ Below w.heap.size w w' := by
  have R1 := Lib.hid h1
  have R2 := Lib.hid h2
  obtain ⟨A1, c1, rfl, _⟩ := h1
  obtain ⟨A2, c2, rfl, _⟩ := h2
  by_cases g1 : 300 < (l1.length : Int)
  · go_enter Try.func7, Try.ntmps7
    go_wp2_with (go_at_call 8; refine (alive8_c w).eq.mono ?_; rintro _ w1 ⟨rfl, hN1⟩)
    go_ret
    exact ⟨rfl, hN1⟩
  by_cases g2 : 300 < (l2.length : Int)
  · go_enter Try.func7, Try.ntmps7
    go_wp2_with (go_at_call 8; refine (alive8_c w).eq.mono ?_; rintro _ w1 ⟨rfl, hN1⟩)
    go_ret
    exact ⟨rfl, hN1⟩
  by_cases g3 : room < 600
  · go_enter Try.func7, Try.ntmps7
    go_wp2_with (go_at_call 8; refine (alive8_c w).eq.mono ?_; rintro _ w1 ⟨rfl, hN1⟩)
    go_ret
    exact ⟨rfl, hN1⟩
  by_cases g4 : 65536 < room
  · go_enter Try.func7, Try.ntmps7
    go_wp2_with (go_at_call 8; refine (alive8_c w).eq.mono ?_; rintro _ w1 ⟨rfl, hN1⟩)
    go_ret
    exact ⟨rfl, hN1⟩
  obtain ⟨r, rfl⟩ : ∃ r : Nat, room = r := ⟨room.toNat, by omega⟩
  have hsum : (l1.length : Int) + (l2.length : Int) = ((l1 ++ l2).length : Int) := by simp
  have hwr : IntKind.i64.wrap ((l1 ++ l2).length : Int) = ((l1 ++ l2).length : Int) := IntWalk.i64_in _ (by rw [← hsum]; omega)
  have b1 : l1.length ≤ (l1 ++ l2).length := by simp
  have bnd : Hid ((l1 ++ l2).length ≤ r ∧ 600 ≤ r ∧ r ≤ 65536 ∧ l1.length ≤ 300 ∧ l2.length ≤ 300) := Lib.hid (by simp; omega)
  have B1 := Lib.hid b1
  clear b1
  obtain ⟨S, hS⟩ := hid_ex (l1 ++ l2)
  rw [hS.out] at hsum hwr bnd B1
  generalize hm : S.length = m at *
  have Hm := Lib.hid hm
  clear hm
  have t1 : Hid True := Lib.hid trivial
  have s1 : Hid True := Lib.hid trivial
  have x1 : Hid True := Lib.hid trivial
  go_enter Try.func7, Try.ntmps7
  go_wp2_with (first
    | (go_at_call 8; refine (alive8_c w).eq.mono ?_; rintro _ w1 ⟨rfl, hN1⟩; have N1 : Hid (NewT w w1) := Lib.hid hN1; have Q1 := Lib.hid hN1.size; clear hN1)
    | (go_at_call 10; refine (New_c r (by have := bnd.out; omega) (by have := bnd.out; omega) w1).mono ?_; rintro _ w2 ⟨rfl, hN, hD⟩; have H2 := Lib.hid hD; have N2 := Lib.hid (NewT.trans _ _ _ N1.out hN); clear hN hD)
    | (go_at_call 13; clear t1; refine (Write_ok _ _ r [] 0 _ l1 _ H2.out (N2.out.rd R1.out) (by have := bnd.out; simp; omega)).mono ?_; rintro _ w3 ⟨rfl, v3, hD, hA⟩; have H3 : Hid (DiskAt w3 w1.heap.size v3 r l1 0) := Lib.hid hA; have N3 := Lib.hid (hD.newT N2.out Q1.out); clear hD hA)
    | (go_at_call 13; refine (Write_ok _ _ r l1 0 _ l2 _ H3.out (N3.out.rd R2.out) (by have := bnd.out; omega)).mono ?_; rintro _ w4 ⟨rfl, v4, hD, hA⟩; rw [hS.out] at hA; have H4 := Lib.hid hA; have N4 := Lib.hid (hD.newT N3.out Q1.out); clear hD hA)
    | (go_at_call 11; refine (Sync_c _ _ r S 0 _ H4.out).mono ?_; rintro _ w5 ⟨rfl, v5, hD, hA⟩; have H5 := Lib.hid hA; have N5 := Lib.hid (hD.newT N4.out Q1.out); clear hD hA)
    | (go_at_call 12; clear s1; refine (Crash_all _ _ r S keep _ H5.out).mono ?_; rintro _ w6 ⟨rfl, v6, hD, hA⟩; have H6 := Lib.hid hA; have N6 := Lib.hid (hD.newT N5.out Q1.out); clear hD hA)
    | (go_at_call 15; clear x1; refine Calls.mono (DBytes_c _ _ r S _ _ H6.out) ?_; rintro _ w7 ⟨v7, rfl, hN, hv⟩; obtain ⟨A7, c7, rfl⟩ := rdV_form (FreshB.rd hv); rw [Hm.out]; have H7 := Lib.hid (H6.out.new hN); have N7 := Lib.hid (NewT.trans _ _ _ N6.out hN); clear hN hv)
    | (go_at_call 14; refine (Cut_ok _ _ r S _ l1.length _ H7.out (by rw [Hm.out]; exact B1.out)).mono ?_; rintro _ w8 ⟨rfl, v8, hD, hA⟩; rw [← hS.out, List.take_left] at hA; have H8 := Lib.hid hA; have N8 := Lib.hid (hD.newT N7.out Q1.out); clear hD hA)
    | (go_at_call 12; refine (Crash_all _ _ r l1 keep _ H8.out).mono ?_; rintro _ w9 ⟨rfl, v9, hD, hA⟩; have H9 := Lib.hid hA; have N9 := Lib.hid (hD.newT N8.out Q1.out); clear hD hA)
    | (go_at_call 15; refine Calls.mono (DBytes_c _ _ r l1 _ _ H9.out) ?_; rintro _ wa ⟨va, rfl, hN, hv⟩; have HA := Lib.hid (H9.out.new hN); have NA := Lib.hid (NewT.trans _ _ _ N9.out hN); have VA := Lib.hid (FreshB.rd hv); clear hN hv)
    | (go_at_call 22; refine (Bytes_cv _ _ l1 l1 _ VA.out (NA.out.rd R1.out) (by have := bnd.out; omega) (by have := bnd.out; omega)).eq.mono ?_; rintro _ wb ⟨rfl, hN⟩; have HB := Lib.hid (HA.out.new hN); have NB := Lib.hid (NewT.trans _ _ _ NA.out hN); clear hN; have dt : decide (l1 = l1) = true := by simp)
    | (go_at_call 16; refine (Lasts_c _ _ r _ _ _ HB.out).eq.mono ?_; rintro _ wc ⟨rfl, hN⟩; have NC := Lib.hid (NewT.trans _ _ _ NB.out hN); clear hN))
  go_ret
  exact ⟨rfl, NC.out⟩
end Go.Proofs.Ytenmoljaeeeaaaa
/- DiskKeeps, walked. -/
namespace Go.Proofs.Ytenmoljaeeeaaaa
open Go Go.RowKit
set_option maxRecDepth 8000
set_option linter.all false
/-- A slice's beginning. -/
theorem rd_begin {w : World} {L : List Nat} {A : Option Addr} {n cap m : Nat} {l : List UInt8} (h : RdV w L (.slice A n cap) l) (hm : m ≤ l.length) : RdV w L (.slice A m cap) (l.take m) := by
  obtain ⟨A', c', hv, h1, h2, h3⟩ := h
  cases hv
  have hl : (l.take m).length = m := by rw [List.length_take]; omega
  refine ⟨A, cap, by rw [hl], by omega, h2, fun h0 => ?_⟩
  obtain ⟨b, o, hA, hb, hc⟩ := h3 (by omega)
  refine ⟨b, o, hA, hb, fun i hi => ?_⟩
  rw [hc i (by omega)]
  simp [bAt, List.getElem?_take, show i < m by omega]
theorem rd_cap {w : World} {L : List Nat} {A : Option Addr} {n c : Nat} {l : List UInt8} (h : RdV w L (.slice A n c) l) : l.length ≤ c := by
  obtain ⟨A', c', hv, h1, _⟩ := h
  cases hv; exact h1
/-- What is new lies beside the disk. -/
theorem DiskAt.beside {w w' : World} {g : Nat} {v : Value} {room : Nat} {S : List UInt8} {n : Nat} (h : DiskAt w g v room S n) {u : Value} {l : List UInt8} (hf : FreshB w.heap.size w' u l) : RdV w' (g :: v.ownBlock.toList) u l :=
  hf.rdL fun k hk => by
    rcases List.mem_cons.1 hk with rfl | hk
    · exact h.lt
    · exact (h.own.lt k (by simpa using hk)).2
theorem rd_any {w : World} {L : List Nat} {u : Value} {l : List UInt8} (h : RdV w L u l) : RdV w [] u l := h.more fun _ _ _ => by simp
set_option maxHeartbeats 1000000 in
theorem DiskKeeps_walk (room : Int) (v1 : Value) (l1 : List UInt8) (v2 : Value) (l2 : List UInt8) (keep : Int) (w : World) (h1 : RdV w [] v1 l1) (h2 : RdV w [] v2 l2) : Calls Try.prog 4 #[.int .i64 room, v1, v2, .int .i64 keep] w fun e w' => e = .returned (.bool true) ∧ Below w.heap.size w w' := by
  have R1 := Lib.hid h1
  have R2 := Lib.hid h2
  obtain ⟨A1, c1, rfl, _⟩ := h1
  obtain ⟨A2, c2, rfl, _⟩ := h2
  by_cases g1 : 300 < (l1.length : Int)
  · go_enter Try.func4, Try.ntmps4
    go_wp2_with (go_at_call 8; refine (alive8_c w).eq.mono ?_; rintro _ w1 ⟨rfl, hN1⟩)
    go_ret
    exact ⟨rfl, hN1⟩
  by_cases g2 : 300 < (l2.length : Int)
  · go_enter Try.func4, Try.ntmps4
    go_wp2_with (go_at_call 8; refine (alive8_c w).eq.mono ?_; rintro _ w1 ⟨rfl, hN1⟩)
    go_ret
    exact ⟨rfl, hN1⟩
  by_cases g3 : room < 1
  · go_enter Try.func4, Try.ntmps4
    go_wp2_with (go_at_call 8; refine (alive8_c w).eq.mono ?_; rintro _ w1 ⟨rfl, hN1⟩)
    go_ret
    exact ⟨rfl, hN1⟩
  by_cases g4 : 65536 < room
  · go_enter Try.func4, Try.ntmps4
    go_wp2_with (go_at_call 8; refine (alive8_c w).eq.mono ?_; rintro _ w1 ⟨rfl, hN1⟩)
    go_ret
    exact ⟨rfl, hN1⟩
  obtain ⟨r, rfl⟩ : ∃ r : Nat, room = r := ⟨room.toNat, by omega⟩
  have bnd : Hid (1 ≤ r ∧ r ≤ 65536 ∧ l1.length ≤ 300 ∧ l2.length ≤ 300) := Lib.hid (by omega)
  by_cases hfit : l1.length ≤ r
  case neg =>
    have i5 : (r : Int) < (l1.length : Int) := by omega
    go_enter Try.func4, Try.ntmps4
    go_wp2_with (first
      | (go_at_call 8; refine (alive8_c w).eq.mono ?_; rintro _ w1 ⟨rfl, hN1⟩; have N1 : Hid (NewT w w1) := Lib.hid hN1; clear hN1)
      | (go_at_call 10; refine (New_c r (by have := bnd.out; omega) (by have := bnd.out; omega) w1).mono ?_; rintro _ w2 ⟨rfl, hN, hD⟩; have H2 := Lib.hid hD; have N2 := Lib.hid (NewT.trans _ _ _ N1.out hN); clear hN hD)
      | (go_at_call 13; refine (Write_full _ _ r [] 0 _ l1 _ H2.out (N2.out.rd R1.out) (by simp; omega)).eq.mono ?_; rintro _ w3 ⟨rfl, hN⟩; have N3 := Lib.hid (NewT.trans _ _ _ N2.out hN); clear hN))
    go_ret
    exact ⟨rfl, N3.out⟩
  have i5 : ¬ (r : Int) < (l1.length : Int) := by omega
  by_cases hlate : l1.length + l2.length ≤ r
  · have bnd2 := Lib.hid hlate
    clear hlate
    replace bnd : Hid (1 ≤ r ∧ r ≤ 65536 ∧ l1.length ≤ 300 ∧ l2.length ≤ 300 ∧ l1.length ≤ r ∧ l1.length + l2.length ≤ r) := Lib.hid (by have := bnd.out; have := bnd2.out; omega)
    clear bnd2 hfit
    obtain ⟨S, hS⟩ := hid_ex (l1 ++ l2)
    have hb1 : l1.length ≤ S.length := by rw [← hS.out]; simp
    obtain ⟨k, hk⟩ := hid_ex (crashN keep l1.length S.length)
    have k1 : l1.length ≤ k := by rw [← hk.out]; exact crashN_ge _ _ _
    have k2 : k ≤ S.length := by rw [← hk.out]; exact crashN_le _ _ _ hb1
    obtain ⟨T, hT⟩ := hid_ex (S.take k)
    have HT : Hid (T.length = k) := Lib.hid (by rw [← hT.out, List.length_take]; omega)
    have K3 : Hid (k ≤ 600) := Lib.hid (by have := bnd.out; have : S.length ≤ 600 := by rw [← hS.out]; simp; omega
                                           omega)
    have i7 : ¬ (k : Int) < (l1.length : Int) := by omega
    have K := Lib.hid (And.intro k1 k2)
    clear k1 k2 hb1
    obtain ⟨m, Hm⟩ := hid_ex S.length
    have i8 : ¬ (m : Int) < (k : Int) := by have := K.out.2; have := Hm.out; omega
    have t1 : Hid True := Lib.hid trivial
    have t2 : Hid True := Lib.hid trivial
    have s1 : Hid True := Lib.hid trivial
    have x1 : Hid True := Lib.hid trivial
    have y1 : Hid True := Lib.hid trivial
    go_enter Try.func4, Try.ntmps4
    go_wp2_with (first
      | (go_at_call 8; refine (alive8_c w).eq.mono ?_; rintro _ w1 ⟨rfl, hN1⟩; have N1 : Hid (NewT w w1) := Lib.hid hN1; have Q1 := Lib.hid hN1.size; clear hN1)
      | (go_at_call 10; refine (New_c r (by have := bnd.out; omega) (by have := bnd.out; omega) w1).mono ?_; rintro _ w2 ⟨rfl, hN, hD⟩; have H2 := Lib.hid hD; have N2 := Lib.hid (NewT.trans _ _ _ N1.out hN); clear hN hD)
      | (go_at_call 13; clear t1; refine (Write_ok _ _ r [] 0 _ l1 _ H2.out (N2.out.rd R1.out) (by have := bnd.out; simp; omega)).mono ?_; rintro _ w3 ⟨rfl, v3, hD, hA⟩; have H3 : Hid (DiskAt w3 w1.heap.size v3 r l1 0) := Lib.hid hA; have N3 := Lib.hid (hD.newT N2.out Q1.out); clear hD hA)
      | (go_at_call 11; refine (Sync_c _ _ r l1 0 _ H3.out).mono ?_; rintro _ w4 ⟨rfl, v4, hD, hA⟩; have H4 := Lib.hid hA; have N4 := Lib.hid (hD.newT N3.out Q1.out); clear hD hA)
      | (go_at_call 13; refine (Write_ok _ _ r l1 _ _ l2 _ H4.out (N4.out.rd R2.out) (by have := bnd.out; omega)).mono ?_; rintro _ w5 ⟨rfl, v5, hD, hA⟩; rw [hS.out] at hA; have H5 := Lib.hid hA; have N5 := Lib.hid (hD.newT N4.out Q1.out); clear hD hA)
      | (go_at_call 15; clear x1; refine Calls.mono (DBytes_c _ _ r S _ _ H5.out) ?_; rintro _ w6 ⟨v6, rfl, hN, hv⟩; have V6 := Lib.hid (H5.out.beside hv); obtain ⟨A6, c6, rfl⟩ := rdV_form V6.out; have cc6 : k ≤ c6 := Nat.le_trans K.out.2 (rd_cap V6.out); have hs := slice_to A6 S.length c6 k cc6; rw [Hm.out] at hs V6 ⊢; clear cc6; have H6 := Lib.hid (H5.out.new hN); have N6 := Lib.hid (NewT.trans _ _ _ N5.out hN); clear hN hv)
      | (go_at_call 12; clear s1; refine (Crash_c _ _ r S _ keep _ H6.out).mono ?_; rintro _ w7 ⟨rfl, v7, hD, hA⟩; rw [hk.out, hT.out] at hA; have H7 := Lib.hid hA; have N7 := Lib.hid (hD.newT N6.out Q1.out); have V7 := Lib.hid (hD.rd V6.out); clear hD hA)
      | (go_at_call 15; clear y1; refine Calls.mono (DBytes_c _ _ r T _ _ H7.out) ?_; rintro _ w8 ⟨v8, rfl, hN, hv⟩; have U8 := Lib.hid (H7.out.beside hv); obtain ⟨A8, c8, rfl⟩ := rdV_form U8.out; rw [HT.out] at U8 ⊢; have V8 := Lib.hid (NewT.rd hN V7.out); have H8 := Lib.hid (H7.out.new hN); have N8 := Lib.hid (NewT.trans _ _ _ N7.out hN); clear hN hv)
      | (go_at_call 22; clear t2; refine (Bytes_cv _ _ T T _ (rd_any U8.out) (by have := rd_begin (m := k) (rd_any V8.out) K.out.2; rw [hT.out] at this; exact this) (by have := bnd.out; have := K3.out; rw [HT.out]; omega) (by have := bnd.out; have := K3.out; rw [HT.out]; omega)).eq.mono ?_; rintro _ w9 ⟨rfl, hN⟩; have H9 := Lib.hid (H8.out.new hN); have N9 := Lib.hid (NewT.trans _ _ _ N8.out hN); have U9 := Lib.hid (NewT.rd hN U8.out); clear hN; have dt : decide (T = T) = true := by simp)
      | (go_at_call 16; refine (Lasts_c _ _ r _ _ _ H9.out).eq.mono ?_; rintro _ wa ⟨rfl, hN⟩; have HA := Lib.hid (H9.out.new hN); have NA := Lib.hid (NewT.trans _ _ _ N9.out hN); have UA := Lib.hid (NewT.rd hN U9.out); clear hN)
      | (go_at_call 12; refine (Crash_all _ _ r T 9 _ (by have := HA.out; rw [HT.out]; exact this)).mono ?_; rintro _ wb ⟨rfl, vb, hD, hA⟩; have HB := Lib.hid hA; have NB := Lib.hid (hD.newT NA.out Q1.out); have UB := Lib.hid (hD.rd UA.out); clear hD hA)
      | (go_at_call 15; refine Calls.mono (DBytes_c _ _ r T _ _ HB.out) ?_; rintro _ wc ⟨vc, rfl, hN, hv⟩; have VC := Lib.hid (FreshB.rd hv); have NC := Lib.hid (NewT.trans _ _ _ NB.out hN); have UC := Lib.hid (NewT.rd hN UB.out); clear hN hv)
      | (go_at_call 22; refine (Bytes_cv _ _ T T _ VC.out (rd_any UC.out) (by have := bnd.out; have := K3.out; rw [HT.out]; omega) (by have := bnd.out; have := K3.out; rw [HT.out]; omega)).eq.mono ?_; rintro _ wd ⟨rfl, hN⟩; have ND := Lib.hid (NewT.trans _ _ _ NC.out hN); clear hN; have dt : decide (T = T) = true := by simp))
    go_ret
    exact ⟨rfl, ND.out⟩
  · have bnd2 := Lib.hid hlate
    clear hlate
    replace bnd : Hid (1 ≤ r ∧ r ≤ 65536 ∧ l1.length ≤ 300 ∧ l2.length ≤ 300 ∧ l1.length ≤ r ∧ r < l1.length + l2.length) := Lib.hid (by have := bnd.out; have := bnd2.out; omega)
    clear bnd2 hfit
    obtain ⟨S, hS⟩ := hid_ex (l1)
    have hb1 : l1.length ≤ S.length := by rw [← hS.out]; exact Nat.le_refl _
    obtain ⟨k, hk⟩ := hid_ex (crashN keep l1.length S.length)
    have k1 : l1.length ≤ k := by rw [← hk.out]; exact crashN_ge _ _ _
    have k2 : k ≤ S.length := by rw [← hk.out]; exact crashN_le _ _ _ hb1
    obtain ⟨T, hT⟩ := hid_ex (S.take k)
    have HT : Hid (T.length = k) := Lib.hid (by rw [← hT.out, List.length_take]; omega)
    have K3 : Hid (k ≤ 600) := Lib.hid (by have := bnd.out; have : S.length ≤ 600 := by rw [← hS.out]; omega
                                           omega)
    have i7 : ¬ (k : Int) < (l1.length : Int) := by omega
    have k3 : k = l1.length := by rw [← hk.out, ← hS.out, crashN_all]
    have K := Lib.hid (And.intro k1 k2)
    clear k1 k2 hb1
    obtain ⟨m, Hm⟩ := hid_ex S.length
    have i8 : ¬ (m : Int) < (k : Int) := by have := K.out.2; have := Hm.out; omega
    have I9 : Hid ((k : Int) = (l1.length : Int)) := Lib.hid (by rw [k3])
    clear k3
    have t1 : Hid True := Lib.hid trivial
    have t2 : Hid True := Lib.hid trivial
    have s1 : Hid True := Lib.hid trivial
    have x1 : Hid True := Lib.hid trivial
    have y1 : Hid True := Lib.hid trivial
    go_enter Try.func4, Try.ntmps4
    go_wp2_with (first
      | (go_at_call 8; refine (alive8_c w).eq.mono ?_; rintro _ w1 ⟨rfl, hN1⟩; have N1 : Hid (NewT w w1) := Lib.hid hN1; have Q1 := Lib.hid hN1.size; clear hN1)
      | (go_at_call 10; refine (New_c r (by have := bnd.out; omega) (by have := bnd.out; omega) w1).mono ?_; rintro _ w2 ⟨rfl, hN, hD⟩; have H2 := Lib.hid hD; have N2 := Lib.hid (NewT.trans _ _ _ N1.out hN); clear hN hD)
      | (go_at_call 13; clear t1; refine (Write_ok _ _ r [] 0 _ l1 _ H2.out (N2.out.rd R1.out) (by have := bnd.out; simp; omega)).mono ?_; rintro _ w3 ⟨rfl, v3, hD, hA⟩; have H3 : Hid (DiskAt w3 w1.heap.size v3 r l1 0) := Lib.hid hA; have N3 := Lib.hid (hD.newT N2.out Q1.out); clear hD hA)
      | (go_at_call 11; refine (Sync_c _ _ r l1 0 _ H3.out).mono ?_; rintro _ w4 ⟨rfl, v4, hD, hA⟩; have H4 := Lib.hid hA; have N4 := Lib.hid (hD.newT N3.out Q1.out); clear hD hA)
      | (go_at_call 13; refine (Write_full _ _ r l1 _ _ l2 _ H4.out (N4.out.rd R2.out) (by have := bnd.out; omega)).eq.mono ?_; rintro _ w5 ⟨rfl, hN⟩; have e5 := H4.out.new hN; have H5 : Hid (DiskAt w5 w1.heap.size v4 r S l1.length) := Lib.hid (by rw [← hS.out]; exact e5); clear e5; have N5 := Lib.hid (NewT.trans _ _ _ N4.out hN); clear hN)
      | (go_at_call 15; clear x1; refine Calls.mono (DBytes_c _ _ r S _ _ H5.out) ?_; rintro _ w6 ⟨v6, rfl, hN, hv⟩; have V6 := Lib.hid (H5.out.beside hv); obtain ⟨A6, c6, rfl⟩ := rdV_form V6.out; have cc6 : k ≤ c6 := Nat.le_trans K.out.2 (rd_cap V6.out); have hs := slice_to A6 S.length c6 k cc6; rw [Hm.out] at hs V6 ⊢; clear cc6; have H6 := Lib.hid (H5.out.new hN); have N6 := Lib.hid (NewT.trans _ _ _ N5.out hN); clear hN hv)
      | (go_at_call 12; clear s1; refine (Crash_c _ _ r S _ keep _ H6.out).mono ?_; rintro _ w7 ⟨rfl, v7, hD, hA⟩; rw [hk.out, hT.out] at hA; have H7 := Lib.hid hA; have N7 := Lib.hid (hD.newT N6.out Q1.out); have V7 := Lib.hid (hD.rd V6.out); clear hD hA)
      | (go_at_call 15; clear y1; refine Calls.mono (DBytes_c _ _ r T _ _ H7.out) ?_; rintro _ w8 ⟨v8, rfl, hN, hv⟩; have U8 := Lib.hid (H7.out.beside hv); obtain ⟨A8, c8, rfl⟩ := rdV_form U8.out; rw [HT.out] at U8 ⊢; have V8 := Lib.hid (NewT.rd hN V7.out); have H8 := Lib.hid (H7.out.new hN); have N8 := Lib.hid (NewT.trans _ _ _ N7.out hN); clear hN hv)
      | (go_at_call 22; clear t2; refine (Bytes_cv _ _ T T _ (rd_any U8.out) (by have := rd_begin (m := k) (rd_any V8.out) K.out.2; rw [hT.out] at this; exact this) (by have := bnd.out; have := K3.out; rw [HT.out]; omega) (by have := bnd.out; have := K3.out; rw [HT.out]; omega)).eq.mono ?_; rintro _ w9 ⟨rfl, hN⟩; have H9 := Lib.hid (H8.out.new hN); have N9 := Lib.hid (NewT.trans _ _ _ N8.out hN); have U9 := Lib.hid (NewT.rd hN U8.out); clear hN; have dt : decide (T = T) = true := by simp)
      | (go_at_call 16; refine (Lasts_c _ _ r _ _ _ H9.out).eq.mono ?_; rintro _ wa ⟨rfl, hN⟩; have i9 := I9.out; have HA := Lib.hid (H9.out.new hN); have NA := Lib.hid (NewT.trans _ _ _ N9.out hN); have UA := Lib.hid (NewT.rd hN U9.out); clear hN)
      | (go_at_call 12; refine (Crash_all _ _ r T 9 _ (by have := HA.out; rw [HT.out]; exact this)).mono ?_; rintro _ wb ⟨rfl, vb, hD, hA⟩; have HB := Lib.hid hA; have NB := Lib.hid (hD.newT NA.out Q1.out); have UB := Lib.hid (hD.rd UA.out); clear hD hA)
      | (go_at_call 15; refine Calls.mono (DBytes_c _ _ r T _ _ HB.out) ?_; rintro _ wc ⟨vc, rfl, hN, hv⟩; have VC := Lib.hid (FreshB.rd hv); have NC := Lib.hid (NewT.trans _ _ _ NB.out hN); have UC := Lib.hid (NewT.rd hN UB.out); clear hN hv)
      | (go_at_call 22; refine (Bytes_cv _ _ T T _ VC.out (rd_any UC.out) (by have := bnd.out; have := K3.out; rw [HT.out]; omega) (by have := bnd.out; have := K3.out; rw [HT.out]; omega)).eq.mono ?_; rintro _ wd ⟨rfl, hN⟩; have ND := Lib.hid (NewT.trans _ _ _ NC.out hN); clear hN; have dt : decide (T = T) = true := by simp))
    go_ret
    exact ⟨rfl, ND.out⟩
end Go.Proofs.Ytenmoljaeeeaaaa
/- DiskOwn, walked. -/
namespace Go.Proofs.Ytenmoljaeeeaaaa
open Go Go.RowKit
set_option maxRecDepth 8000
set_option linter.all false
theorem FreshB.row1 {B : Nat} {w : World} {v : Value} {l : List UInt8} (h : FreshB B w v l) (h0 : 0 < l.length) : ∃ g c N f, v = .slice (some ⟨g, 0, none⟩) l.length c ∧ B ≤ g ∧ w.rowIs g 5 N f ∧ l.length ≤ N ∧ ∀ i, i < l.length → f i = .int .u8 (bN (bAt l i)) := by
  rcases h with ⟨_, rfl⟩ | ⟨g, c, N, f, h1, _, _, h4, h5⟩
  · simp at h0
  · exact ⟨g, c, N, f, h1, h4, h5⟩
/-- An empty row that is new. -/
theorem ownB_empty (w : World) : OwnB (w.alloc (.cells #[] 5)) w.heap.size (.slice (some ⟨w.heap.size, 0, none⟩) 0 0) [] :=
  ownsRow_row (rowIs_box w 5 0 (fun _ => undef)) w.heap.size 0 (by omega) (by unfold maxLen; omega) (Nat.le_refl _)
set_option maxHeartbeats 1000000 in
theorem DiskOwn_walk (v1 : Value) (l1 : List UInt8) (at' : Nat) (hat : at' < 256) (w : World) (h1 : RdV w [] v1 l1) : Calls Try.prog 5 #[v1, .int .u8 (at' : Int)] w fun e w' => e = .returned (.bool true) ∧ Below w.heap.size w w' := by
  have R1 := Lib.hid h1
  obtain ⟨A1, c1, rfl, _⟩ := h1
  by_cases g1 : 300 < (l1.length : Int)
  · go_enter Try.func5, Try.ntmps5
    go_wp2_with (go_at_call 8; refine (alive8_c w).eq.mono ?_; rintro _ w1 ⟨rfl, hN1⟩)
    go_ret
    exact ⟨rfl, hN1⟩
  by_cases g2 : (l1.length : Int) = 0
  · go_enter Try.func5, Try.ntmps5
    go_wp2_with (go_at_call 8; refine (alive8_c w).eq.mono ?_; rintro _ w1 ⟨rfl, hN1⟩)
    go_ret
    exact ⟨rfl, hN1⟩
  have bnd : Hid (0 < l1.length ∧ l1.length ≤ 300 ∧ at' < 256) := Lib.hid (by omega)
  have g3 : ((l1.length : Int) == 0) = false := by simpa using g2
  clear g2
  obtain ⟨i0, hi, hz0, hz1, hz2⟩ := info_parts info5
  obtain ⟨k, hk⟩ := hid_ex (at' % l1.length)
  have hkm : (at' : Int) % (l1.length : Int) = (k : Int) := by rw [← hk.out]; rfl
  have hww : wrap64 (at' : Int) = (at' : Int) := by have := bnd.out; unfold wrap64; omega
  have hkt : (at' : Int).tmod (l1.length : Int) = (k : Int) := by rw [← hkm, Int.tmod_eq_emod_of_nonneg (by omega)]
  have hkl : Hid (k < l1.length) := Lib.hid (by rw [← hk.out]; exact Nat.mod_lt _ bnd.out.1)
  clear hat
  have t1 : Hid True := Lib.hid trivial
  have b1 : Hid True := Lib.hid trivial
  go_enter Try.func5, Try.ntmps5
  go_wp2_with (first
    | (go_at_call 8; refine (alive8_c w).eq.mono ?_; rintro _ w1 ⟨rfl, hN1⟩; have N1 : Hid (NewT w w1) := Lib.hid hN1; have Q1 := Lib.hid hN1.size; clear hN1)
    | (go_at_call 10; refine (New_c 1000 (by omega) (by omega) w1).mono ?_; rintro _ w2 ⟨rfl, hN, hD⟩; have H2 := Lib.hid hD; have N2 := Lib.hid (NewT.trans _ _ _ N1.out hN); clear hN hD)
    | (at_builtin
       obtain ⟨v3, w3, hrun, hO, hG, -⟩ := run_appB_two (ownB_empty w2) (NewT.rd (NewT.trans _ _ _ N2.out (NewT.alloc w2 _)) R1.out) (by have := bnd.out; simp; omega) (NewT.alloc w2 _).size 31
       refine wpList_plain rfl (fun K hK => ?_)
       refine opr_append rfl rfl rfl hrun (hK _ _ ?_)
       clear hK K hrun
       rw [List.nil_append] at hO
       have hN3 : NewT w2 w3 := NewT.of ((NewT.alloc w2 (.cells #[] 5)).out.grown hG (NewT.alloc w2 _).size (fun k e => ((ownB_empty w2).lt k e).1))
       obtain ⟨gb, cb, nb, fb, rfl, hgb, hrow, hnb, hfb⟩ := (OwnB.fresh hO).row1 bnd.out.1
       have H3 := Lib.hid (H2.out.new hN3)
       have N3 := Lib.hid (NewT.trans _ _ _ N2.out hN3)
       have B3 := Lib.hid (And.intro hrow (And.intro hnb hfb))
       have G3 : Hid (gb ∉ [w1.heap.size]) := Lib.hid (by have := H2.out.lt; simp; omega)
       have GB : Hid (w.heap.size ≤ gb) := Lib.hid (Nat.le_trans N2.out.out.size hgb)
       have hsr := (OwnB.rd hO)
       clear hO hG hN3 hrow hnb hfb)
    | (go_at_call 13; refine (Write_ok _ _ 1000 [] 0 _ l1 _ H3.out hsr (by have := bnd.out; simp; omega)).mono ?_; rintro _ w4 ⟨rfl, v4, hD, hA⟩; have H4 : Hid (DiskAt w4 w1.heap.size v4 1000 l1 0) := Lib.hid hA; have N4 := Lib.hid (hD.newT N3.out Q1.out); have B4 := Lib.hid (hD.row (by simpa [Value.ownBlock] using G3.out) B3.out.1); have G4 := Lib.hid (hD.apart B3.out.1.lt (by simpa [Value.ownBlock] using G3.out)); clear hD hA hsr
       have hcell := B4.out.cell (i := k) (by have := B3.out.2.1; have := hkl.out; omega)
       rw [B3.out.2.2 k hkl.out] at hcell
       have hfr := B4.out.frozen k
       have hkn := hkl.out)
    | (go_at_call 15; clear b1
       have hT5 := RT.setCell (R := gb) w4 k (Value.int .u8 ((bN (bAt l1 k) + 1) % 256))
       have H5 := Lib.hid (H4.out.keep hT5.keep (by have := G4.out; simp at this ⊢; omega) (fun j hj => by have := G4.out; simp [hj] at this ⊢; omega))
       have N5 := Lib.hid (NewT.of (N4.out.out.trans (hT5.below.mono GB.out)))
       clear hT5 hcell hfr
       refine Calls.mono (DBytes_c _ _ 1000 l1 _ _ H5.out) ?_; rintro _ w6 ⟨v6, rfl, hN, hv⟩
       obtain ⟨gc, cc, nc, fc, rfl, hgc, hrow, hnc, hfc⟩ := hv.row1 bnd.out.1
       have H6 := Lib.hid (H5.out.new hN); have N6 := Lib.hid (NewT.trans _ _ _ N5.out hN)
       have G6 : Hid (gc ≠ w1.heap.size ∧ ∀ j, v4.ownBlock = some j → j ≠ gc) := Lib.hid ⟨by have := H5.out.lt; omega, fun j hj => by have := (H5.out.own.lt j hj).2; omega⟩
       have GC : Hid (w.heap.size ≤ gc) := Lib.hid (Nat.le_trans N5.out.out.size hgc)
       have hcell := hrow.cell (i := k) (by omega)
       rw [hfc k hkl.out] at hcell
       have hfr := hrow.frozen k
       clear hN hv hgc hrow hnc hfc)
    | (go_at_call 15
       have hT7 := RT.setCell (R := gc) w6 k (Value.int .u8 ((bN (bAt l1 k) + 1) % 256))
       have H7 := Lib.hid (H6.out.keep hT7.keep (by have := G6.out.1; simp; omega) (fun j hj => by have := G6.out.2 j hj; simpa using this))
       have N7 := Lib.hid (NewT.of (N6.out.out.trans (hT7.below.mono GC.out)))
       clear hT7 hcell hfr
       refine Calls.mono (DBytes_c _ _ 1000 l1 _ _ H7.out) ?_; rintro _ w8 ⟨v8, rfl, hN, hv⟩
       have N8 := Lib.hid (NewT.trans _ _ _ N7.out hN); have V8 := Lib.hid (FreshB.rd hv); clear hN hv)
    | (go_at_call 22; refine (Bytes_cv _ _ l1 l1 _ V8.out (N8.out.rd R1.out) (by have := bnd.out; omega) (by have := bnd.out; omega)).eq.mono ?_; rintro _ w9 ⟨rfl, hN⟩; have N9 := Lib.hid (NewT.trans _ _ _ N8.out hN); clear hN; have dt : decide (l1 = l1) = true := by simp))
  go_ret
  exact ⟨rfl, N9.out⟩
end Go.Proofs.Ytenmoljaeeeaaaa
/- DiskRoom, walked. -/
namespace Go.Proofs.Ytenmoljaeeeaaaa
open Go Go.RowKit
set_option maxRecDepth 8000
set_option linter.all false
theorem parts_cell {w : World} {A : Option Addr} {n c : Nat} {ps : List (Value × List UInt8)} (h : PartsAt w [] (.slice A n c) ps) (h0 : 0 < ps.length) : ∃ b o, A = some ⟨b, o, none⟩ ∧ b < w.heap.size ∧ ∀ i x, ps[i]? = some x → w.cell? ⟨b, o + i, none⟩ = some x.1 := by
  obtain ⟨A', c', hv, _, _, h3, _⟩ := h
  cases hv
  obtain ⟨b, o, hA, _, hc⟩ := h3 h0
  exact ⟨b, o, hA, World.block_lt_of_cell? _ _ (hc 0 _ (List.getElem?_eq_getElem h0)), hc⟩
theorem parts_rd {w : World} {L : List Nat} {v : Value} {ps : List (Value × List UInt8)} (h : PartsAt w L v ps) {x : Value × List UInt8} (hx : x ∈ ps) : RdV w L x.1 x.2 := by
  obtain ⟨_, _, _, _, _, _, h4⟩ := h
  exact h4 x hx
theorem cell_new {w w' : World} {b i : Nat} {u : Value} (h : NewT w w') (hb : b < w.heap.size) (hc : w.cell? ⟨b, i, none⟩ = some u) : w'.cell? ⟨b, i, none⟩ = some u := (h.out.cell (p := ⟨b, i, none⟩) hb).trans hc
set_option maxRecDepth 20000 in
set_option maxHeartbeats 1000000 in
theorem DiskRoom_walk (room : Int) (v1 : Value) (ps : List (Value × List UInt8)) (w : World) (h1 : PartsAt w [] v1 ps) : Calls Try.prog 6 #[.int .i64 room, v1] w fun e w' => e = .returned (.bool true) ∧ Below w.heap.size w w' := by
  have R1 := Lib.hid h1
  obtain ⟨A1, c1, rfl, _⟩ := h1
  by_cases g1 : 30 < (ps.length : Int)
  · go_enter Try.func6, Try.ntmps6
    go_wp2_with (go_at_call 8; refine (alive8_c w).eq.mono ?_; rintro _ w1 ⟨rfl, hN1⟩)
    go_ret
    exact ⟨rfl, hN1⟩
  by_cases g3 : room < 1
  · go_enter Try.func6, Try.ntmps6
    go_wp2_with (go_at_call 8; refine (alive8_c w).eq.mono ?_; rintro _ w1 ⟨rfl, hN1⟩)
    go_ret
    exact ⟨rfl, hN1⟩
  by_cases g4 : 65536 < room
  · go_enter Try.func6, Try.ntmps6
    go_wp2_with (go_at_call 8; refine (alive8_c w).eq.mono ?_; rintro _ w1 ⟨rfl, hN1⟩)
    go_ret
    exact ⟨rfl, hN1⟩
  obtain ⟨r, rfl⟩ : ∃ r : Nat, room = r := ⟨room.toNat, by omega⟩
  have bnd : Hid (1 ≤ r ∧ r ≤ 65536) := Lib.hid (by omega)
  have hmax : ps.length ≤ 30 := by omega
  go_enter Try.func6, Try.ntmps6
  go_wp2_with (first
    | (go_at_call 8; refine (alive8_c w).eq.mono ?_; rintro _ w1 ⟨rfl, hN1⟩; have N1 : Hid (NewT w w1) := Lib.hid hN1; have Q1 := Lib.hid hN1.size; clear hN1)
    | (go_at_call 10; refine (New_c r (by have := bnd.out; omega) (by have := bnd.out; omega) w1).mono ?_; rintro _ w2 ⟨rfl, hN, hD⟩; have H2 := Lib.hid hD; have N2 := Lib.hid (NewT.trans _ _ _ N1.out hN); clear hN hD))
  go_loopw [6, 7] (fun n i wr => ∃ (k : Nat) (S : List UInt8) (v : Value), k ≤ ps.length ∧ n = .int .i64 (S.length : Int) ∧ i = .int .i64 (k : Int) ∧ Hid (DiskAt wr w1.heap.size v r S 0) ∧ Hid (NewT w wr)) (fun _ i _ => ps.length - (intOf i).toNat)
  case atStart => exact ⟨0, [], .slice none 0 0, by omega, rfl, rfl, H2, N2⟩
  case round =>
    obtain ⟨k, S, v, hk, rfl, rfl, HD, HN⟩ := hrel
    clear H2 N2
    by_cases hlt : k < ps.length
    · have it : (k : Int) < (ps.length : Int) := by omega
      obtain ⟨b, o, rfl, hb, hc⟩ := parts_cell R1.out (by omega)
      obtain ⟨x, hx⟩ : ∃ x, ps[k]? = some x := ⟨_, List.getElem?_eq_getElem hlt⟩
      obtain ⟨u, l⟩ := x
      have hxr : RdV w [] u l := parts_rd R1.out (List.mem_of_getElem? hx)
      have hc : w.cell? ⟨b, o + k, none⟩ = some u := hc k _ hx
      obtain ⟨A3, c3, rfl⟩ := rdV_form hxr
      have HX := Lib.hid hxr
      have HC := Lib.hid hc
      have hcell := cell_new HN.out hb hc
      clear hxr hc hx
      by_cases h3 : 300 < (l.length : Int)
      · go_wp2
        go_ret
        exact ⟨rfl, HN.out⟩
      have sfit := Lib.hid HD.out.fits
      by_cases hfit : S.length + l.length ≤ r
      · have fit := Lib.hid hfit
        clear hfit
        obtain ⟨T, hT⟩ := hid_ex (S ++ l)
        have HT : Hid (T.length = S.length + l.length) := Lib.hid (by rw [← hT.out]; simp)
        have hw : wrap64 ((S.length : Int) + (l.length : Int)) = (T.length : Int) := by have := HT.out; have := fit.out; have := bnd.out; unfold wrap64; omega
        have hle : (T.length : Int) ≤ (r : Int) := by have := HT.out; have := fit.out; omega
        obtain ⟨z, hz⟩ := hid_ex (r - T.length)
        have HWS : Hid (wrap64 ((r : Int) - (T.length : Int)) = (z : Int)) := Lib.hid (by have := bnd.out; have := hz.out; have := sfit.out; unfold wrap64; omega)
        go_wp2_with (first
          | (go_at_call 13; clear hcell; refine (Write_ok _ _ r S 0 _ l _ HD.out (HN.out.rd HX.out) (by have := fit.out; omega)).mono ?_; rintro _ w3 ⟨rfl, v3, hD, hA⟩; rw [hT.out] at hA; have H3 := Lib.hid hA; have N3 := Lib.hid (hD.newT HN.out Q1.out); have hcell := cell_new N3.out hb HC.out; clear hD hA)
          | (go_at_call 15; rw [hw]; clear hw hle HT HX HC hcell; refine Calls.mono (DBytes_c _ _ r T _ _ H3.out) ?_; rintro _ w4 ⟨v4, rfl, hN, hv⟩; have H4 := Lib.hid (H3.out.new hN); have N4 := Lib.hid (NewT.trans _ _ _ N3.out hN); obtain ⟨A4, c4, rfl⟩ := rdV_form (FreshB.rd hv); clear hN hv)
          | (go_at_call 17; have hws := HWS.out; refine (Room_c _ _ r T _ _ H4.out).eq.mono ?_; rintro _ w5 ⟨rfl, hN⟩; rw [hz.out]; have H5 := Lib.hid (H4.out.new hN); have N5 := Lib.hid (NewT.trans _ _ _ N4.out hN); clear hN))
        clear hws
        go_roundw
        case rel => exact ⟨k + 1, T, v3, by omega, rfl, by go_num, H5, N5⟩
        case measure => simp [intOf]; omega
      · have fit := Lib.hid hfit
        clear hfit
        have hw : wrap64 ((S.length : Int) + (l.length : Int)) = ((S.length + l.length : Nat) : Int) := by have := bnd.out; have := sfit.out; unfold wrap64; omega
        obtain ⟨q, hq⟩ := hid_ex (S.length + l.length)
        rw [hq.out] at hw
        have hle : ¬ (q : Int) ≤ (r : Int) := by have := hq.out; have := fit.out; omega
        obtain ⟨z, hz⟩ := hid_ex (r - S.length)
        have HWS : Hid (wrap64 ((r : Int) - (S.length : Int)) = (z : Int)) := Lib.hid (by have := bnd.out; have := hz.out; have := sfit.out; unfold wrap64; omega)
        go_wp2_with (first
          | (go_at_call 13; clear hcell; refine (Write_full _ _ r S 0 _ l _ HD.out (HN.out.rd HX.out) (by have := fit.out; omega)).eq.mono ?_; rintro _ w3 ⟨rfl, hN⟩; have H3 := Lib.hid (HD.out.new hN); have N3 := Lib.hid (NewT.trans _ _ _ HN.out hN); have hcell := cell_new N3.out hb HC.out; clear hN)
          | (go_at_call 15; clear hw hle HX HC hcell; refine Calls.mono (DBytes_c _ _ r S _ _ H3.out) ?_; rintro _ w4 ⟨v4, rfl, hN, hv⟩; have H4 := Lib.hid (H3.out.new hN); have N4 := Lib.hid (NewT.trans _ _ _ N3.out hN); obtain ⟨A4, c4, rfl⟩ := rdV_form (FreshB.rd hv); clear hN hv)
          | (go_at_call 17; have hws := HWS.out; refine (Room_c _ _ r S _ _ H4.out).eq.mono ?_; rintro _ w5 ⟨rfl, hN⟩; rw [hz.out]; have H5 := Lib.hid (H4.out.new hN); have N5 := Lib.hid (NewT.trans _ _ _ N4.out hN); clear hN))
        clear hws
        go_roundw
        case rel => exact ⟨k + 1, S, v, by omega, rfl, by go_num, H5, N5⟩
        case measure => simp [intOf]; omega
    · obtain rfl : k = ps.length := by omega
      go_wp2
      go_ret
      exact ⟨rfl, HN.out⟩
end Go.Proofs.Ytenmoljaeeeaaaa
/- A law's argument that is a slice of slices of bytes, opened. -/
namespace Go.Proofs.Ytenmoljaeeeaaaa
open Go.ChangeShapes Go.WideShapes Go.ChangeAt Go.WideMaps Go.WideElems Go.RowKit
set_option maxRecDepth 8000
set_option linter.all false
theorem cells1 : Try.prog.cellsOf 31 = 1 := by kernel_rfl
theorem cells1b : Try.prog.cellsOf 5 = 1 := by kernel_rfl
/-- A slice of slices of bytes that came in reads as a list of lists. -/
theorem open_parts_any {H : Type} {enc : TypeId × Value → H} {w : World} {base : Nat} {held : Bool} {v : Value} {d : DataW H} {p : List MemPlace} {r : Reach} {b0 : Nat}
    (hv : Value.okWide Try.prog w r b0 45 v) (h : DataW.Trod enc Try.prog w base (fun _ => true) held 45 v d p) : ∃ ps : List (Value × List UInt8), PartsAt w [] v ps := by
  obtain ⟨a0, len, cap, rfl⟩ := okWide_slice Try.underlying45 hv
  obtain ⟨fuel, hf⟩ := h
  rcases Go.Deep.open_int_rows Try.underlying45 Try.underlying31 Try.underlying5 cells1 cells1b hf with ⟨hcs, _⟩ | ⟨a, len', cap', A, L, C, Z, hcs, _, hl, hm, hx, hr⟩
  · simp [Value.cells] at hcs
    obtain ⟨rfl, rfl, rfl⟩ := hcs
    exact ⟨[], ⟨none, 0, rfl, by simp, by unfold maxLen; omega, fun h0 => absurd h0 (by simp), fun x hx => by simp at hx⟩⟩
  · simp [Value.cells] at hcs
    obtain ⟨rfl, rfl, rfl⟩ := hcs
    simp only [Prod.mk.injEq] at hx
    obtain ⟨hd, _⟩ := hx
    have hlenl : ∀ i, i < len → ((Z i).take (L i)).length = L i := fun i hi => by
      obtain ⟨_, h1, _, h3, _⟩ := hr i (by omega)
      simp; omega
    refine ⟨(List.range len).map fun i => (.slice (A i) (L i) (C i), ((Z i).take (L i)).map fun z => UInt8.ofNat z.toNat), ⟨some a, cap, by simp, by simpa using hl, hm, fun h0 => ?_, fun x hx => ?_⟩⟩
    · have h0' : 0 < len := by simpa using h0
      obtain ⟨b, off, spot⟩ := a
      have hspot : spot = none := by simpa [Addr.add] using World.cell?_spot (hr 0 (by omega)).1
      subst hspot
      refine ⟨b, off, rfl, by simp, fun i x hx => ?_⟩
      rw [List.getElem?_map] at hx
      have hi : i < len := by
        have := (List.getElem?_eq_some_iff.1 (show ((List.range len).map fun i => ((Value.slice (A i) (L i) (C i)), ((Z i).take (L i)).map fun z => UInt8.ofNat z.toNat))[i]? = some x by rw [List.getElem?_map]; exact hx)).1
        simpa using this
      simp [hi] at hx
      subst hx
      have := (hr i (by omega)).1
      rwa [Go.WideShapes.add_plain] at this
    · obtain ⟨i, hi, rfl⟩ := List.mem_map.1 hx
      have hi' : i < len := by simpa using hi
      obtain ⟨_, h1, h2, h3, h4, h5, h6⟩ := hr i (by omega)
      have hll : (((Z i).take (L i)).map fun z => UInt8.ofNat z.toNat).length = L i := by simp; omega
      refine ⟨A i, C i, by rw [hll], by rw [hll]; exact h1, h2, fun h0 => ?_⟩
      rw [hll] at h0
      cases hA : A i with
      | none => have := h5 hA; omega
      | some a' =>
        obtain ⟨_, h7⟩ := h6 a' hA
        obtain ⟨b, off, spot⟩ := a'
        have hspot : spot = none := by simpa [Addr.add] using World.cell?_spot (h7 0 (by omega))
        subst hspot
        refine ⟨b, off, rfl, by simp, fun j hj => ?_⟩
        rw [hll] at hj
        have hc := h7 j (by omega)
        rw [Go.WideShapes.add_plain] at hc
        rw [hc]
        have hzj : (Z i)[j]? = some (Z i)[j] := List.getElem?_eq_getElem (by omega)
        have hb := bounds_u8 (h4 (Z i)[j] (List.getElem_mem (by omega)))
        have e1 : bAt (((Z i).take (L i)).map fun z => UInt8.ofNat z.toNat) j = UInt8.ofNat (Z i)[j].toNat := by simp [bAt, hj, hzj]
        rw [e1]
        unfold bN
        rw [UInt8.toNat_ofNat']
        simp [List.getD, hzj]
        omega
end Go.Proofs.Ytenmoljaeeeaaaa
