/- The small functions of package sha: rotations, the six sums, choose and majority: each call returns the document's number and leaves the world as it was. -/
import Derived.Test.YtpoebajpmkcjdaaDoorProg
import Derived.Test.YtpoebajpmkcjdaaDoorBase
namespace Go.Proofs.YtpoebajpmkcjdaaDoor
open Go.RowKit
attribute [local go_sem] u32_add u32_xor u32_and u32_or u32_not signed_u32 wrap_uN u32_shl u32_shr u32_div8 u32_div1024

theorem and31 (n : Nat) (hn : 0 < n) (hn2 : n < 32) : bits .and .u64 (IntKind.u64.wrap (-(n : Int))) 31 = ((32 - n : Nat) : Int) := by
  have : ∀ k : Fin 32, 0 < k.val → bits .and .u64 (IntKind.u64.wrap (-(k.val : Int))) 31 = ((32 - k.val : Nat) : Int) := by decide
  exact this ⟨n, hn2⟩ hn
set_option maxHeartbeats 400000 in
theorem rot_any (x : BitVec 32) (n : Nat) (hn : 0 < n) (hn2 : n < 32) (w : World) :
    Calls Tryd.prog 63 #[.int .u32 (uN x), .int .i64 (-(n : Int))] w fun e w' => e = .returned (.int .u32 (uN (x.rotateRight n))) ∧ w = w' := by
  have hs := and31 n hn hn2
  obtain ⟨m, hm⟩ : ∃ m, 32 - n = m := ⟨_, rfl⟩
  have Hm := Lib.hid hm
  rw [hm] at hs
  have h1 : 1 ≤ m := by omega
  have h2 : m ≤ 31 := by omega
  clear hm
  go_enter Tryd.func63, Tryd.ntmps63
  go_wp2
  go_ret
  refine ⟨?_, rfl⟩
  have hm := Hm.out
  obtain rfl : n = 32 - m := by omega
  have e := uN_rotr x (32 - m) hn2
  rw [u32_or, show 32 - (32 - m) = m by omega] at e
  exact congrArg (fun z => Ending.returned (Value.int IntKind.u32 z)) e
set_option maxHeartbeats 400000 in
theorem turnRight_any (x : BitVec 32) (n : Int) (hn : 0 < n) (hn2 : n < 32) (w : World) :
    Calls Tryd.prog 61 #[.int .u32 (uN x), .int .i64 n] w fun e w' => e = .returned (.int .u32 (uN (x.rotateRight n.toNat))) ∧ w = w' := by
  obtain ⟨m, rfl⟩ := Int.eq_ofNat_of_zero_le (Int.le_of_lt hn)
  rw [Int.toNat_natCast]
  go_enter Tryd.func61, Tryd.ntmps61
  go_wp2_with fail
  refine (rot_any x m (by omega) (by omega) _).mono ?_
  rintro e w' ⟨rfl, rfl⟩
  go_wp2
  go_ret
  exact ⟨rfl, rfl⟩
def bs1 (x : BitVec 32) : BitVec 32 := x.rotateRight 6 ^^^ x.rotateRight 11 ^^^ x.rotateRight 25
set_option maxHeartbeats 400000 in
theorem bs1_any (x : BitVec 32) (w : World) :
    Calls Tryd.prog 52 #[.int .u32 (uN x)] w fun e w' => e = .returned (.int .u32 (uN (bs1 x))) ∧ w = w' := by
  go_enter Tryd.func52, Tryd.ntmps52
  go_wp2_with (go_at_call 61; refine (turnRight_any x _ (by decide) (by decide) _).mono ?_; rintro e w' ⟨rfl, rfl⟩)
  go_ret
  exact ⟨rfl, rfl⟩
def bs0 (x : BitVec 32) : BitVec 32 := x.rotateRight 2 ^^^ x.rotateRight 13 ^^^ x.rotateRight 22
set_option maxHeartbeats 400000 in
theorem bs0_any (x : BitVec 32) (w : World) :
    Calls Tryd.prog 54 #[.int .u32 (uN x)] w fun e w' => e = .returned (.int .u32 (uN (bs0 x))) ∧ w = w' := by
  go_enter Tryd.func54, Tryd.ntmps54
  go_wp2_with (go_at_call 61; refine (turnRight_any x _ (by decide) (by decide) _).mono ?_; rintro e w' ⟨rfl, rfl⟩)
  go_ret
  exact ⟨rfl, rfl⟩
def ss1 (x : BitVec 32) : BitVec 32 := x.rotateRight 17 ^^^ x.rotateRight 19 ^^^ x >>> 10
set_option maxHeartbeats 400000 in
theorem ss1_any (x : BitVec 32) (w : World) :
    Calls Tryd.prog 56 #[.int .u32 (uN x)] w fun e w' => e = .returned (.int .u32 (uN (ss1 x))) ∧ w = w' := by
  go_enter Tryd.func56, Tryd.ntmps56
  go_wp2_with (go_at_call 61; refine (turnRight_any x _ (by decide) (by decide) _).mono ?_; rintro e w' ⟨rfl, rfl⟩)
  go_ret
  exact ⟨rfl, rfl⟩
def ss0 (x : BitVec 32) : BitVec 32 := x.rotateRight 7 ^^^ x.rotateRight 18 ^^^ x >>> 3
set_option maxHeartbeats 400000 in
theorem ss0_any (x : BitVec 32) (w : World) :
    Calls Tryd.prog 57 #[.int .u32 (uN x)] w fun e w' => e = .returned (.int .u32 (uN (ss0 x))) ∧ w = w' := by
  go_enter Tryd.func57, Tryd.ntmps57
  go_wp2_with (go_at_call 61; refine (turnRight_any x _ (by decide) (by decide) _).mono ?_; rintro e w' ⟨rfl, rfl⟩)
  go_ret
  exact ⟨rfl, rfl⟩
def chs (x y z : BitVec 32) : BitVec 32 := (x &&& y) ^^^ (~~~x &&& z)
set_option maxHeartbeats 400000 in
theorem chs_any (x y z : BitVec 32) (w : World) :
    Calls Tryd.prog 53 #[.int .u32 (uN x), .int .u32 (uN y), .int .u32 (uN z)] w fun e w' => e = .returned (.int .u32 (uN (chs x y z))) ∧ w = w' := by
  go_enter Tryd.func53, Tryd.ntmps53
  go_wp2
  go_ret
  exact ⟨rfl, rfl⟩
def maj (x y z : BitVec 32) : BitVec 32 := (x &&& y) ^^^ (x &&& z) ^^^ (y &&& z)
set_option maxHeartbeats 400000 in
theorem maj_any (x y z : BitVec 32) (w : World) :
    Calls Tryd.prog 55 #[.int .u32 (uN x), .int .u32 (uN y), .int .u32 (uN z)] w fun e w' => e = .returned (.int .u32 (uN (maj x y z))) ∧ w = w' := by
  go_enter Tryd.func55, Tryd.ntmps55
  go_wp2
  go_ret
  exact ⟨rfl, rfl⟩
end Go.Proofs.YtpoebajpmkcjdaaDoor
