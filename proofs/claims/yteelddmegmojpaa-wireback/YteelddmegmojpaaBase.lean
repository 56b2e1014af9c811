/- Own words for numbers of 32 bits and bytes, and how the walk's arithmetic reads on them. No program is named here. -/
import Derived.WalkKit
import Derived.WalkSpells
import Derived.WalkLawsBesides
import Derived.Lib.Hide
namespace Go.Proofs.Yteelddmegmojpaa
open Go.RowKit

/-- A number of 32 bits, as the model has it. -/
def uN (x : BitVec 32) : Int := x.toNat
/-- A byte, as the model has it. -/
def bN (b : UInt8) : Int := b.toNat

theorem uN_lt (x : BitVec 32) : 0 ≤ uN x ∧ uN x < 4294967296 := by unfold uN; omega
theorem bN_lt (x : UInt8) : 0 ≤ bN x ∧ bN x < 256 := by unfold bN; have := x.toNat_lt; omega

theorem wrap_u32 (n : Int) : IntKind.u32.wrap n = n % 4294967296 := by simp [IntKind.wrap, IntKind.bits, IntKind.signed]
theorem wrap_u8 (n : Int) : IntKind.u8.wrap n = n % 256 := by simp [IntKind.wrap, IntKind.bits, IntKind.signed]
theorem ofInt_uN (x : BitVec 32) : BitVec.ofInt 32 (uN x) = x := by unfold uN; simp
theorem wrap_uN (x : BitVec 32) : IntKind.u32.wrap (uN x) = uN x := by rw [wrap_u32]; have := uN_lt x; omega
theorem u32_add (x y : BitVec 32) : IntKind.u32.wrap (uN x + uN y) = uN (x + y) := by
  rw [wrap_u32]; unfold uN; rw [BitVec.toNat_add]; omega
theorem u32_xor (x y : BitVec 32) : bits .xor .u32 (uN x) (uN y) = uN (x ^^^ y) := by
  show IntKind.u32.wrap (uN (BitVec.ofInt 32 (uN x) ^^^ BitVec.ofInt 32 (uN y))) = _
  rw [ofInt_uN, ofInt_uN, wrap_uN]
theorem u32_and (x y : BitVec 32) : bits .and .u32 (uN x) (uN y) = uN (x &&& y) := by
  show IntKind.u32.wrap (uN (BitVec.ofInt 32 (uN x) &&& BitVec.ofInt 32 (uN y))) = _
  rw [ofInt_uN, ofInt_uN, wrap_uN]
theorem u32_or (x y : BitVec 32) : bits .or .u32 (uN x) (uN y) = uN (x ||| y) := by
  show IntKind.u32.wrap (uN (BitVec.ofInt 32 (uN x) ||| BitVec.ofInt 32 (uN y))) = _
  rw [ofInt_uN, ofInt_uN, wrap_uN]
theorem u32_not (x : BitVec 32) : bits .xor .u32 IntKind.u32.max (uN x) = uN (~~~x) := by
  show IntKind.u32.wrap (uN (BitVec.ofInt 32 IntKind.u32.max ^^^ BitVec.ofInt 32 (uN x))) = _
  rw [ofInt_uN, wrap_uN, show BitVec.ofInt 32 IntKind.u32.max = BitVec.allOnes 32 by decide, BitVec.allOnes_xor]
theorem signed_u32 : IntKind.u32.signed = false := rfl
theorem u32_shr (x : BitVec 32) (n : Nat) : uN x / (2 : Int) ^ n = uN (x >>> n) := by
  unfold uN; rw [BitVec.toNat_ushiftRight, Nat.shiftRight_eq_div_pow]; simp
theorem u32_shl (x : BitVec 32) (n : Nat) : IntKind.u32.wrap (uN x * (2 : Int) ^ n) = uN (x <<< n) := by
  rw [wrap_u32]; unfold uN; rw [BitVec.toNat_shiftLeft, Nat.shiftLeft_eq]; simp
theorem u32_div8 (x : BitVec 32) : uN x / (8 : Int) = uN (x >>> 3) := u32_shr x 3
theorem u32_div1024 (x : BitVec 32) : uN x / (1024 : Int) = uN (x >>> 10) := u32_shr x 10
theorem u32_mul256 (x : BitVec 32) : IntKind.u32.wrap (uN x * (256 : Int)) = uN (x <<< 8) := u32_shl x 8
theorem bN_u32 (b : UInt8) : IntKind.u32.wrap (bN b) = uN (b.toBitVec.setWidth 32) := by
  have h := bN_lt b
  rw [wrap_u32]; unfold uN bN at *; rw [BitVec.toNat_setWidth]
  show (b.toNat : Int) % 4294967296 = ((b.toNat % 2 ^ 32 : Nat) : Int)
  omega
theorem u32_u8 (x : BitVec 32) : IntKind.u8.wrap (uN x) = bN (UInt8.ofBitVec (x.setWidth 8)) := by
  rw [wrap_u8]; unfold uN bN
  show _ = (((x.setWidth 8).toNat : Nat) : Int)
  rw [BitVec.toNat_setWidth]; omega
theorem uN_rotr (x : BitVec 32) (n : Nat) (h1 : n < 32) : bits .or .u32 (uN (x <<< (32 - n))) (uN (x >>> n)) = uN (x.rotateRight n) := by
  rw [u32_or, BitVec.rotateRight_def, Nat.mod_eq_of_lt h1, BitVec.or_comm]
theorem uN_inj {x y : BitVec 32} (h : uN x = uN y) : x = y := by
  unfold uN at h; exact BitVec.eq_of_toNat_eq (by omega)
theorem bN_inj {x y : UInt8} (h : bN x = bN y) : x = y := by
  unfold bN at h; exact UInt8.toNat_inj.1 (by omega)

end Go.Proofs.Yteelddmegmojpaa
