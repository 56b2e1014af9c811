/- WireFails, walked. -/
import Derived.Test.YteelddmegmojpaaWA
namespace Go.Proofs.Yteelddmegmojpaa
open Go Go.RowKit

theorem equal_hash0 (w : World) : (Op.equalIn 10000 24 (.agg (rowA 32 (bF fun _ => 0))) (.agg #[.int .u8 0, .int .u8 0, .int .u8 0, .int .u8 0, .int .u8 0, .int .u8 0, .int .u8 0, .int .u8 0, .int .u8 0, .int .u8 0, .int .u8 0, .int .u8 0, .int .u8 0, .int .u8 0, .int .u8 0, .int .u8 0, .int .u8 0, .int .u8 0, .int .u8 0, .int .u8 0, .int .u8 0, .int .u8 0, .int .u8 0, .int .u8 0, .int .u8 0, .int .u8 0, .int .u8 0, .int .u8 0, .int .u8 0, .int .u8 0, .int .u8 0, .int .u8 0])).run Try.prog w = .ok true w := equal_hash w (fun _ => 0)
attribute [local go_sem] equal_hash0
set_option maxHeartbeats 4000000 in
theorem WireFails_walk (vb : Value) (lb : List UInt8) (k : Nat) (hk : k < 256) (w : World) (hb : RdV w [] vb lb) : Calls Try.prog 7 #[vb, .int .u8 (k : Int)] w fun e w' => e = .returned (.bool true) ∧ Below w.heap.size w w' := by
  have Hb := Lib.hid hb
  obtain ⟨A, c, rfl, h1, h2, _⟩ := hb
  unfold maxLen at h2
  by_cases hl : 200 < lb.length
  · go_enter Try.func7, Try.ntmps7
    go_wp2_with (go_at_call 9; refine (alive3_any w).mono ?_; rintro _ w1 ⟨rfl, hB1⟩)
    go_ret
    exact ⟨rfl, hB1⟩
  · obtain ⟨x, hx⟩ : ∃ x : Nat, 1 + k % 12 = x := ⟨_, rfl⟩
    have hx1 : 1 ≤ x := by omega
    have hx2 : x ≤ 12 := by omega
    have hxi : 1 + (k : Int) % 12 = (x : Int) := by omega
    have hxn : (x : Int) ≠ 0 := by omega
    have HX := Lib.hid hxn
    clear hx hxn
    go_enter Try.func7, Try.ntmps7
    go_wp2_with (first
      | (go_at_call 9; refine (alive3_any w).mono ?_; rintro _ w1 ⟨rfl, hB1⟩)
      | (go_at_call 17; refine (Read_any _ lb w1 (NewT.rd hB1 Hb.out) (by omega)).mono ?_; rintro _ w2 ⟨R, rfl, hN2, hR2, hr2⟩; have G2 := Lib.hid hr2; clear hr2)
      | (go_at_call 25; refine (Fail_good R lb x HX.out w2 G2.out).mono ?_; rintro _ w3 ⟨rfl, hT3, hr3⟩; have G3 := Lib.hid hr3; clear hr3)
      | (go_at_call 24; refine (Bad_any R [] x w3 G3.out).eq.mono ?_; rintro _ w4 ⟨rfl, hB4⟩; have G4 := Lib.hid (G3.out.new hB4))
      | (go_at_call 19; refine (RNum_bad R [] x HX.out w4 G4.out).mono ?_; rintro _ w5 ⟨rfl, hT5, hr5⟩; have G5 := Lib.hid hr5; clear hr5)
      | (go_at_call 20; refine (RFlag_bad R [] x HX.out w5 G5.out).mono ?_; rintro _ w6 ⟨rfl, hT6, hr6⟩; have G6 := Lib.hid hr6; clear hr6)
      | (go_at_call 21; refine (RBytes_bad R 9 [] x HX.out w6 G6.out).mono ?_; rintro _ w7 ⟨rfl, hT7, hr7⟩; have G7 := Lib.hid hr7; clear hr7)
      | (go_at_call 22; refine (RHash_bad R [] x HX.out w7 G7.out).mono ?_; rintro _ w8 ⟨rfl, hT8, hr8⟩; have G8 := Lib.hid hr8; clear hr8)
      | (go_at_call 23; refine (Left_any R [] x w8 G8.out).eq.mono ?_; rintro _ w9 ⟨rfl, hB9⟩; have G9 := Lib.hid (G8.out.new hB9))
      | (go_at_call 24; refine (Bad_any R [] x w9 G9.out).eq.mono ?_; rintro _ wa ⟨rfl, hBa⟩; have Ga := Lib.hid (G9.out.new hBa))
      | (go_at_call 26; refine (Done_any R [] x wa Ga.out).eq.mono ?_; rintro _ wb ⟨rfl, hBb⟩; simp only [List.length_nil, Nat.lt_irrefl, if_false]))
    go_ret
    have hB : RT R w2 wb := RT.trans _ _ _ hT3 (RT.trans _ _ _ (RT.new G3.out.lt hB4) (RT.trans _ _ _ hT5 (RT.trans _ _ _ hT6 (RT.trans _ _ _ hT7 (RT.trans _ _ _ hT8 (RT.trans _ _ _ (RT.new G8.out.lt hB9) (RT.trans _ _ _ (RT.new G9.out.lt hBa) (RT.new Ga.out.lt hBb))))))))
    have hs := hB1.size
    exact ⟨rfl, (NewT.trans _ _ _ hB1 hN2).out.trans (hB.below.mono (by omega))⟩
end Go.Proofs.Yteelddmegmojpaa
