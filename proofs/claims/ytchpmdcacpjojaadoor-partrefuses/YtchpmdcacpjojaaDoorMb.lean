/- The two tables, out of the rows' own condition; the row's last step where the world has new blocks alone; the shapes of the arguments. -/
import Derived.Test.YtchpmdcacpjojaaDoorRows
import Derived.Test.YtchpmdcacpjojaaDoorMa
import Derived.ProofKit
import Derived.LaidMore
import Derived.OpenShut
import Derived.Stop.Joined
import Derived.Lib.LaidTab
import Derived.Stop.LaidErr
import Derived.Carry
import Derived.Deep.SlicePairs
import Derived.Deep.Slices
import Derived.Deep.Cut
import Derived.Lib.SliceRun
set_option linter.all false
namespace Go.Proofs.YtchpmdcacpjojaaDoor
open Go.ChangeShapes Go.WideShapes Go.ChangeAt Go.WideMaps Go.WideElems Go.RowKit
set_option maxRecDepth 8000
set_option linter.all false

theorem gK : Tryd.prog.globalNamed "inspeximus/api.K" = some 1 := by kernel_rfl
theorem gF : Tryd.prog.globalNamed "inspeximus/api.First" = some 0 := by kernel_rfl
theorem tK : (Tryd.prog.globals[1]?).map (·.type) = some 126 := by kernel_rfl
theorem tF : (Tryd.prog.globals[0]?).map (·.type) = some 117 := by kernel_rfl
def laid2 : List (String × DataW Unit) := [("inspeximus/api.K", Rows.laid_inspeximus_api_K), ("inspeximus/api.First", Rows.laid_inspeximus_api_First)]
def kInts : List Int := kTab.map fun (n : Nat) => (n : Int)
def fInts : List Int := fTab.map fun (n : Nat) => (n : Int)
theorem laidK : (Rows.laid_inspeximus_api_K : DataW Unit) = Lib.tabData .u32 kInts := rfl
theorem laidF : (Rows.laid_inspeximus_api_First : DataW Unit) = Lib.tabData .u32 fInts := rfl
theorem tables_of_laid {W : World} (h : laidMetH Tryd.prog laid2 W) : Tables W := by
  rw [MakeChecks.laidMetH_plain _ _ _ (by kernel_rfl)] at h
  have hK : Lib.TabIs Tryd.prog W "inspeximus/api.K" .u32 kInts := Lib.tabIs_of_head gK tK Tryd.underlying126 Tryd.underlying116 (by kernel_rfl) (by kernel_rfl) h
  have hF : Lib.TabIs Tryd.prog W "inspeximus/api.First" .u32 fInts := Lib.tabIs_of_head gF tF Tryd.underlying117 Tryd.underlying116 (by kernel_rfl) (by kernel_rfl) (laidMet.tail h)
  have hs : 1 < W.heap.size := World.block_lt_of_cell? _ _ (hK.cell gK 0 (by decide))
  refine ⟨hs, fun i hi => ?_, fun i hi => ?_⟩
  · rw [hK.cell gK i (by simpa [kInts, kTab] using hi)]
    have h : ∀ i : Fin 64, kInts.getD i.val 0 = uN (Kc i.val) := by decide +kernel
    rw [h ⟨i, hi⟩]
  · rw [hF.cell gF i (by simpa [fInts, fTab] using hi)]
    have h : ∀ i : Fin 8, fInts.getD i.val 0 = uN (Fc i.val) := by decide +kernel
    rw [h ⟨i, hi⟩]
/-- The door's own heap meets the condition. -/
theorem door_met (os : Os) (args : Array Value) : laidMetH Tryd.prog laid2 ((World.doorLaid Tryd.prog 400 os).forCall (fun _ _ => 0) ⟨#[], args, []⟩).memory :=
  laidMetH_of_parts3 (fuel := 8) (laidMet_of_run' 8 (by kernel_rfl) (by kernel_rfl)) (by kernel_rfl) (by kernel_rfl)
end Go.Proofs.YtchpmdcacpjojaaDoor
/- (all of it lies in EP now) -/
/- The laws' arguments, opened: arrays of numbers by value, slices of bytes. -/
namespace Go.Proofs.YtchpmdcacpjojaaDoor
open Go.ChangeShapes Go.WideShapes Go.ChangeAt Go.WideMaps Go.WideElems Go.RowKit
set_option maxRecDepth 8000
set_option linter.all false

theorem open_words {f : Nat → Int} {n : Nat} (h : ∀ i, i < n → (Lit.int .u32 (f i)).wf = true) : ∃ d : Nat → BitVec 32, rowA n (fun i => Value.int .u32 (f i)) = rowA n (uF d) := by
  refine ⟨fun i => BitVec.ofNat 32 (f i).toNat, rowA_congr fun i hi => ?_⟩
  have := bounds_u32 (h i hi)
  unfold uF uN
  rw [BitVec.toNat_ofNat]
  congr 1
  omega
end Go.Proofs.YtchpmdcacpjojaaDoor
/- Laws of five and of six arguments: each of them read. No program is named. -/
namespace Go.Proofs.YtchpmdcacpjojaaDoor
open Go Go.ChangeShapes Go.RowKit
set_option maxRecDepth 8000
set_option linter.all false
section
variable {H : Type} {enc : TypeId × Value → H} {P : Program} {w : World} {base : Nat} {spare : Nat → Bool} {held : Bool}
theorem trodAll_five {t0 t1 t2 t3 t4 : TypeId} {args : Array Value} {ds : List (DataW H)} {ps : List MemPlace} (h : DataW.TrodAll enc P w base spare held [t0, t1, t2, t3, t4] args.toList ds ps) :
    ∃ v0 v1 v2 v3 v4 d0 d1 d2 d3 d4 p0 p1 p2 p3 p4, args = #[v0, v1, v2, v3, v4] ∧ ds = [d0, d1, d2, d3, d4] ∧ ps = p0 ++ p1 ++ p2 ++ p3 ++ p4 ∧ DataW.Trod enc P w base spare held t0 v0 d0 p0 ∧ DataW.Trod enc P w base spare held t1 v1 d1 p1 ∧ DataW.Trod enc P w base spare held t2 v2 d2 p2 ∧ DataW.Trod enc P w base spare held t3 v3 d3 p3 ∧ DataW.Trod enc P w base spare held t4 v4 d4 p4 := by
  obtain ⟨v0, vs0, d0, ds0, p0, q0, hargs, rfl, rfl, hd0, hr0⟩ := trodAll_cons h
  obtain ⟨v1, vs1, d1, ds1, p1, q1, rfl, rfl, rfl, hd1, hr1⟩ := trodAll_cons hr0
  obtain ⟨v2, vs2, d2, ds2, p2, q2, rfl, rfl, rfl, hd2, hr2⟩ := trodAll_cons hr1
  obtain ⟨v3, vs3, d3, ds3, p3, q3, rfl, rfl, rfl, hd3, hr3⟩ := trodAll_cons hr2
  obtain ⟨v4, vs4, d4, ds4, p4, q4, rfl, rfl, rfl, hd4, hr4⟩ := trodAll_cons hr3
  obtain ⟨rfl, rfl, rfl⟩ := trodAll_nil hr4
  exact ⟨v0, v1, v2, v3, v4, d0, d1, d2, d3, d4, p0, p1, p2, p3, p4, by cases args; simp_all, rfl, by simp, hd0, hd1, hd2, hd3, hd4⟩
theorem trodAll_six {t0 t1 t2 t3 t4 t5 : TypeId} {args : Array Value} {ds : List (DataW H)} {ps : List MemPlace} (h : DataW.TrodAll enc P w base spare held [t0, t1, t2, t3, t4, t5] args.toList ds ps) :
    ∃ v0 v1 v2 v3 v4 v5 d0 d1 d2 d3 d4 d5 p0 p1 p2 p3 p4 p5, args = #[v0, v1, v2, v3, v4, v5] ∧ ds = [d0, d1, d2, d3, d4, d5] ∧ ps = p0 ++ p1 ++ p2 ++ p3 ++ p4 ++ p5 ∧ DataW.Trod enc P w base spare held t0 v0 d0 p0 ∧ DataW.Trod enc P w base spare held t1 v1 d1 p1 ∧ DataW.Trod enc P w base spare held t2 v2 d2 p2 ∧ DataW.Trod enc P w base spare held t3 v3 d3 p3 ∧ DataW.Trod enc P w base spare held t4 v4 d4 p4 ∧ DataW.Trod enc P w base spare held t5 v5 d5 p5 := by
  obtain ⟨v0, vs0, d0, ds0, p0, q0, hargs, rfl, rfl, hd0, hr0⟩ := trodAll_cons h
  obtain ⟨v1, vs1, d1, ds1, p1, q1, rfl, rfl, rfl, hd1, hr1⟩ := trodAll_cons hr0
  obtain ⟨v2, vs2, d2, ds2, p2, q2, rfl, rfl, rfl, hd2, hr2⟩ := trodAll_cons hr1
  obtain ⟨v3, vs3, d3, ds3, p3, q3, rfl, rfl, rfl, hd3, hr3⟩ := trodAll_cons hr2
  obtain ⟨v4, vs4, d4, ds4, p4, q4, rfl, rfl, rfl, hd4, hr4⟩ := trodAll_cons hr3
  obtain ⟨v5, vs5, d5, ds5, p5, q5, rfl, rfl, rfl, hd5, hr5⟩ := trodAll_cons hr4
  obtain ⟨rfl, rfl, rfl⟩ := trodAll_nil hr5
  exact ⟨v0, v1, v2, v3, v4, v5, d0, d1, d2, d3, d4, d5, p0, p1, p2, p3, p4, p5, by cases args; simp_all, rfl, by simp, hd0, hd1, hd2, hd3, hd4, hd5⟩
end
end Go.Proofs.YtchpmdcacpjojaaDoor
/- Numbers as bytes, on lists: a number's bytes, how bytes are read as a number, and that these two are one another's. No program is named here. -/
namespace Go.Proofs.YtchpmdcacpjojaaDoor
open Go
set_option maxRecDepth 8000
set_option linter.all false

/-- How many bytes a number has. -/
def sz (n : Nat) : Nat := if n < 128 then 1 else if n < 16384 then 2 else if n < 2097152 then 3 else if n < 268435456 then 4 else 5
abbrev uB (n : Nat) : UInt8 := UInt8.ofNat n
/-- A number's bytes. -/
def numL (n : Nat) : List UInt8 :=
  if n < 128 then [uB n] else if n < 16384 then [uB (n / 128 + 128), uB (n % 128)] else if n < 2097152 then [uB (n / 16384 + 128), uB (n / 128 % 128 + 128), uB (n % 128)]
  else if n < 268435456 then [uB (n / 2097152 + 128), uB (n / 16384 % 128 + 128), uB (n / 128 % 128 + 128), uB (n % 128)]
  else [uB (n / 268435456 % 128 + 128), uB (n / 2097152 % 128 + 128), uB (n / 16384 % 128 + 128), uB (n / 128 % 128 + 128), uB (n % 128)]
theorem numL_length (n : Nat) : (numL n).length = sz n := by unfold numL sz; split <;> (try split) <;> (try split) <;> (try split) <;> rfl
theorem sz_pos (n : Nat) : 1 ≤ sz n := by unfold sz; split <;> (try split) <;> (try split) <;> (try split) <;> omega
theorem sz_le (n : Nat) : sz n ≤ 5 := by unfold sz; split <;> (try split) <;> (try split) <;> (try split) <;> omega
/-- The bytes of whatever number there is, none of what is none. -/
def numI (n : Int) : List UInt8 := if 0 ≤ n ∧ n ≤ 2147483647 then numL n.toNat else []
theorem numI_nat (n : Nat) (h : n ≤ 2147483647) : numI (n : Int) = numL n := by unfold numI; rw [if_pos (by omega), Int.toNat_natCast]
theorem numI_length (n : Int) : (numI n).length ≤ 5 := by
  unfold numI; split
  · rw [numL_length]; exact sz_le _
  · simp
/-- Bytes, from place i on, read as a number: it, how many bytes it has, the error. -/
def goN : List UInt8 → Nat → Nat → Nat × Nat × Nat
  | [], _, _ => (0, 0, 3)
  | c :: r, i, v => if (i = 0 ∧ c.toNat = 128) ∨ i = 5 then (0, 0, 2) else if 128 ≤ c.toNat then goN r (i + 1) (v * 128 + c.toNat % 128)
    else if 2147483647 < v * 128 + c.toNat % 128 then (0, 0, 2) else (v * 128 + c.toNat % 128, i + 1, 0)
theorem toNat_uB (n : Nat) : (uB n).toNat = n % 256 := UInt8.toNat_ofNat'
theorem goN_put (n : Nat) (hn : n ≤ 2147483647) (r : List UInt8) : goN (numL n ++ r) 0 0 = (n, sz n, 0) := by
  unfold numL sz
  by_cases h1 : n < 128
  · rw [if_pos h1, if_pos h1]
    simp only [List.cons_append, List.nil_append, goN, toNat_uB]
    rw [if_neg (by omega), if_neg (by omega), if_neg (by omega)]
    simp; omega
  rw [if_neg h1, if_neg h1]
  by_cases h2 : n < 16384
  · rw [if_pos h2, if_pos h2]
    simp only [List.cons_append, List.nil_append, goN, toNat_uB]
    rw [if_neg (by omega), if_pos (by omega), if_neg (by omega), if_neg (by omega), if_neg (by omega)]
    simp; omega
  rw [if_neg h2, if_neg h2]
  by_cases h3 : n < 2097152
  · rw [if_pos h3, if_pos h3]
    simp only [List.cons_append, List.nil_append, goN, toNat_uB]
    rw [if_neg (by omega), if_pos (by omega), if_neg (by omega), if_pos (by omega), if_neg (by omega), if_neg (by omega), if_neg (by omega)]
    simp; omega
  rw [if_neg h3, if_neg h3]
  by_cases h4 : n < 268435456
  · rw [if_pos h4, if_pos h4]
    simp only [List.cons_append, List.nil_append, goN, toNat_uB]
    rw [if_neg (by omega), if_pos (by omega), if_neg (by omega), if_pos (by omega), if_neg (by omega), if_pos (by omega), if_neg (by omega), if_neg (by omega), if_neg (by omega)]
    simp; omega
  rw [if_neg h4, if_neg h4]
  simp only [List.cons_append, List.nil_append, goN, toNat_uB]
  rw [if_neg (by omega), if_pos (by omega), if_neg (by omega), if_pos (by omega), if_neg (by omega), if_pos (by omega), if_neg (by omega), if_pos (by omega), if_neg (by omega), if_neg (by omega), if_neg (by omega)]
  simp; omega
/-- What an error says, and that there is none of another kind. -/
theorem goN_err : ∀ (l : List UInt8) (i v : Nat), (goN l i v).2.2 ≠ 0 → goN l i v = (0, 0, (goN l i v).2.2) ∧ ((goN l i v).2.2 = 2 ∨ (goN l i v).2.2 = 3)
  | [], _, _, _ => ⟨rfl, .inr rfl⟩
  | c :: r, i, v, h => by
    rw [goN] at h ⊢
    split
    · exact ⟨rfl, .inl rfl⟩
    · rename_i h1
      rw [if_neg h1] at h
      split
      · rename_i h2
        rw [if_pos h2] at h
        exact goN_err r _ _ h
      · rename_i h2
        rw [if_neg h2] at h
        split
        · exact ⟨rfl, .inl rfl⟩
        · rename_i h3
          rw [if_neg h3] at h
          exact absurd rfl h
theorem goN_bounds : ∀ (l : List UInt8) (i v : Nat), (goN l i v).2.2 = 0 → (goN l i v).1 ≤ 2147483647 ∧ i < (goN l i v).2.1 ∧ (goN l i v).2.1 ≤ i + l.length
  | [], _, _, h => by simp [goN] at h
  | c :: r, i, v, h => by
    rw [goN] at h ⊢
    split at h
    · simp at h
    · rename_i h1
      rw [if_neg h1]
      split at h
      · rename_i h2
        rw [if_pos h2]
        have := goN_bounds r (i + 1) _ h
        simp only [List.length_cons]
        omega
      · rename_i h2
        rw [if_neg h2]
        split at h
        · simp at h
        · rename_i h3
          rw [if_neg h3]
          simp only [List.length_cons]
          omega
theorem uB_back (c : UInt8) (n : Nat) (h : n = c.toNat) : uB n = c := by subst h; simp [uB]
/-- Each number has one form, and no beginning of it is a number. -/
theorem goN_one (b : List UInt8) (n k : Nat) (h : goN b 0 0 = (n, k, 0)) : numL n = b.take k ∧ ∀ i, i < k → goN (b.take i) 0 0 = (0, 0, 3) := by
  rcases b with _ | ⟨c0, b⟩
  · simp [goN] at h
  have t0 := c0.toNat_lt
  rw [goN] at h
  split at h
  · simp at h
  rename_i g0
  split at h
  rotate_left
  · rename_i h0
    split at h
    · simp at h
    rename_i m0
    simp only [Prod.mk.injEq] at h
    obtain ⟨rfl, rfl, _⟩ := h
    refine ⟨?_, fun i hi => ?_⟩
    · unfold numL
      rw [if_pos (by omega)]
      simp only [List.take_succ_cons, List.take_zero, List.cons.injEq, and_true]
      exact uB_back _ _ (by omega)
    · obtain rfl : i = 0 := by omega
      rfl
  rename_i h0
  rcases b with _ | ⟨c1, b⟩
  · simp [goN] at h
  have t1 := c1.toNat_lt
  rw [goN] at h
  split at h
  · simp at h
  rename_i g1
  split at h
  rotate_left
  · rename_i h1
    split at h
    · simp at h
    rename_i m1
    simp only [Prod.mk.injEq] at h
    obtain ⟨rfl, rfl, _⟩ := h
    refine ⟨?_, fun i hi => ?_⟩
    · unfold numL
      rw [if_neg (by omega), if_pos (by omega)]
      simp only [Nat.zero_add, Nat.reduceAdd, List.take_succ_cons, List.take_zero, List.cons.injEq, and_true]
      exact ⟨uB_back _ _ (by omega), uB_back _ _ (by omega)⟩
    · have : i = 0 ∨ i = 1 := by omega
      rcases this with rfl | rfl
      · rfl
      · simp only [List.take_succ_cons, List.take_zero, goN]
        rw [if_neg (by first | omega | (simp; omega)), if_pos h0]
  rename_i h1
  rcases b with _ | ⟨c2, b⟩
  · simp [goN] at h
  have t2 := c2.toNat_lt
  rw [goN] at h
  split at h
  · simp at h
  rename_i g2
  split at h
  rotate_left
  · rename_i h2
    split at h
    · simp at h
    rename_i m2
    simp only [Prod.mk.injEq] at h
    obtain ⟨rfl, rfl, _⟩ := h
    refine ⟨?_, fun i hi => ?_⟩
    · unfold numL
      rw [if_neg (by omega), if_neg (by omega), if_pos (by omega)]
      simp only [Nat.zero_add, Nat.reduceAdd, List.take_succ_cons, List.take_zero, List.cons.injEq, and_true]
      exact ⟨uB_back _ _ (by omega), uB_back _ _ (by omega), uB_back _ _ (by omega)⟩
    · have : i = 0 ∨ i = 1 ∨ i = 2 := by omega
      rcases this with rfl | rfl | rfl
      · rfl
      · simp only [List.take_succ_cons, List.take_zero, goN]
        rw [if_neg (by first | omega | (simp; omega)), if_pos h0]
      · simp only [List.take_succ_cons, List.take_zero, goN]
        rw [if_neg (by first | omega | (simp; omega)), if_pos h0, if_neg (by first | omega | (simp; omega)), if_pos h1]
  rename_i h2
  rcases b with _ | ⟨c3, b⟩
  · simp [goN] at h
  have t3 := c3.toNat_lt
  rw [goN] at h
  split at h
  · simp at h
  rename_i g3
  split at h
  rotate_left
  · rename_i h3
    split at h
    · simp at h
    rename_i m3
    simp only [Prod.mk.injEq] at h
    obtain ⟨rfl, rfl, _⟩ := h
    refine ⟨?_, fun i hi => ?_⟩
    · unfold numL
      rw [if_neg (by omega), if_neg (by omega), if_neg (by omega), if_pos (by omega)]
      simp only [Nat.zero_add, Nat.reduceAdd, List.take_succ_cons, List.take_zero, List.cons.injEq, and_true]
      exact ⟨uB_back _ _ (by omega), uB_back _ _ (by omega), uB_back _ _ (by omega), uB_back _ _ (by omega)⟩
    · have : i = 0 ∨ i = 1 ∨ i = 2 ∨ i = 3 := by omega
      rcases this with rfl | rfl | rfl | rfl
      · rfl
      · simp only [List.take_succ_cons, List.take_zero, goN]
        rw [if_neg (by first | omega | (simp; omega)), if_pos h0]
      · simp only [List.take_succ_cons, List.take_zero, goN]
        rw [if_neg (by first | omega | (simp; omega)), if_pos h0, if_neg (by first | omega | (simp; omega)), if_pos h1]
      · simp only [List.take_succ_cons, List.take_zero, goN]
        rw [if_neg (by first | omega | (simp; omega)), if_pos h0, if_neg (by first | omega | (simp; omega)), if_pos h1, if_neg (by first | omega | (simp; omega)), if_pos h2]
  rename_i h3
  rcases b with _ | ⟨c4, b⟩
  · simp [goN] at h
  have t4 := c4.toNat_lt
  rw [goN] at h
  split at h
  · simp at h
  rename_i g4
  split at h
  rotate_left
  · rename_i h4
    split at h
    · simp at h
    rename_i m4
    simp only [Prod.mk.injEq] at h
    obtain ⟨rfl, rfl, _⟩ := h
    refine ⟨?_, fun i hi => ?_⟩
    · unfold numL
      rw [if_neg (by omega), if_neg (by omega), if_neg (by omega), if_neg (by omega)]
      simp only [Nat.zero_add, Nat.reduceAdd, List.take_succ_cons, List.take_zero, List.cons.injEq, and_true]
      exact ⟨uB_back _ _ (by omega), uB_back _ _ (by omega), uB_back _ _ (by omega), uB_back _ _ (by omega), uB_back _ _ (by omega)⟩
    · have : i = 0 ∨ i = 1 ∨ i = 2 ∨ i = 3 ∨ i = 4 := by omega
      rcases this with rfl | rfl | rfl | rfl | rfl
      · rfl
      · simp only [List.take_succ_cons, List.take_zero, goN]
        rw [if_neg (by first | omega | (simp; omega)), if_pos h0]
      · simp only [List.take_succ_cons, List.take_zero, goN]
        rw [if_neg (by first | omega | (simp; omega)), if_pos h0, if_neg (by first | omega | (simp; omega)), if_pos h1]
      · simp only [List.take_succ_cons, List.take_zero, goN]
        rw [if_neg (by first | omega | (simp; omega)), if_pos h0, if_neg (by first | omega | (simp; omega)), if_pos h1, if_neg (by first | omega | (simp; omega)), if_pos h2]
      · simp only [List.take_succ_cons, List.take_zero, goN]
        rw [if_neg (by first | omega | (simp; omega)), if_pos h0, if_neg (by first | omega | (simp; omega)), if_pos h1, if_neg (by first | omega | (simp; omega)), if_pos h2, if_neg (by first | omega | (simp; omega)), if_pos h3]
  rename_i h4
  rcases b with _ | ⟨c5, b⟩
  · simp [goN] at h
  · rw [goN, if_pos (by omega)] at h
    simp at h
/-- The place i of a number's bytes. -/
def numB (n s i : Nat) : UInt8 := if i + 1 = s then uB (n / 2 ^ (7 * (s - 1 - i)) % 128) else uB (n / 2 ^ (7 * (s - 1 - i)) % 128 + 128)
theorem numL_row (n : Nat) (hn : n ≤ 2147483647) : numL n = (List.range (sz n)).map (numB n (sz n)) := by
  unfold numL sz
  by_cases h1 : n < 128
  · rw [if_pos h1, if_pos h1]; simp [numB, List.range_succ, show n % 128 = n by omega]
  rw [if_neg h1, if_neg h1]
  by_cases h2 : n < 16384
  · rw [if_pos h2, if_pos h2]; simp [numB, List.range_succ, show n / 128 % 128 = n / 128 by omega]
  rw [if_neg h2, if_neg h2]
  by_cases h3 : n < 2097152
  · rw [if_pos h3, if_pos h3]; simp [numB, List.range_succ, show n / 16384 % 128 = n / 16384 by omega]
  rw [if_neg h3, if_neg h3]
  by_cases h4 : n < 268435456
  · rw [if_pos h4, if_pos h4]; simp [numB, List.range_succ, show n / 2097152 % 128 = n / 2097152 by omega]
  rw [if_neg h4, if_neg h4]
  simp [numB, List.range_succ]
/-- A greater number by its head. -/
theorem numL_step (n : Nat) (hn : n ≤ 2147483647) (h : 128 ≤ n) : ∃ (init : List UInt8) (x : Nat), x < 128 ∧ numL (n / 128) = init ++ [uB x] ∧ numL n = init ++ [uB (x + 128), uB (n % 128)] := by
  unfold numL
  rw [if_neg (show ¬ n < 128 by omega)]
  by_cases h2 : n < 16384
  · rw [if_pos h2, if_pos (by omega)]
    exact ⟨[], n / 128, by omega, rfl, rfl⟩
  rw [if_neg h2, if_neg (show ¬ n / 128 < 128 by omega)]
  by_cases h3 : n < 2097152
  · rw [if_pos h3, if_pos (show n / 128 < 16384 by omega)]
    refine ⟨[uB (n / 128 / 128 + 128)], n / 128 % 128, by omega, rfl, ?_⟩
    rw [show n / 128 / 128 = n / 16384 by omega]; rfl
  rw [if_neg h3, if_neg (show ¬ n / 128 < 16384 by omega)]
  by_cases h4 : n < 268435456
  · rw [if_pos h4, if_pos (show n / 128 < 2097152 by omega)]
    refine ⟨[uB (n / 128 / 16384 + 128), uB (n / 128 / 128 % 128 + 128)], n / 128 % 128, by omega, rfl, ?_⟩
    rw [show n / 128 / 128 = n / 16384 by omega, show n / 128 / 16384 = n / 2097152 by omega]; rfl
  rw [if_neg h4, if_neg (show ¬ n / 128 < 2097152 by omega), if_pos (show n / 128 < 268435456 by omega)]
  refine ⟨[uB (n / 128 / 2097152 + 128), uB (n / 128 / 16384 % 128 + 128), uB (n / 128 / 128 % 128 + 128)], n / 128 % 128, by omega, rfl, ?_⟩
  rw [show n / 128 / 128 = n / 16384 by omega, show n / 128 / 16384 = n / 2097152 by omega, show n / 128 / 2097152 = n / 268435456 % 128 by omega]; rfl
end Go.Proofs.YtchpmdcacpjojaaDoor
/- Records, on lists: which are right, their bytes, sealed and open; that sealed bytes tell right records apart, but for what redacting leaves out. No program is named here; the commitment is whatever function cm is. -/
namespace Go.Proofs.YtchpmdcacpjojaaDoor
open Go
set_option maxRecDepth 8000
set_option linter.all false

/-- A record: its numbers, flags, hashes (their first 32 places), steps and payload. -/
structure Rc where
  kind : Int
  saga : Int
  seq : Int
  step : Int
  tr : Int
  back : Bool
  good : Bool
  nd : Int
  part : Int
  epoch : Int
  tag : Nat → UInt8
  steps : List (Int × Int)
  data : List UInt8
  salt : Nat → UInt8
  gone : Bool
  com : Nat → UInt8
/-- A hash as bytes. -/
def hL (d : Nat → UInt8) : List UInt8 := (List.range 32).map d
theorem hL_length (d : Nat → UInt8) : (hL d).length = 32 := by simp [hL]
def hZ (d : Nat → UInt8) : Bool := (List.range 32).all fun i => d i == 0
theorem hZ_hL (d : Nat → UInt8) (h : hZ d = true) : hL d = hL fun _ => 0 := by
  unfold hL
  exact List.map_congr_left fun i hi => by simpa using List.all_eq_true.1 h i hi
def inR (n lo hi : Int) : Bool := decide (lo ≤ n) && decide (n ≤ hi)
theorem inR_iff (n lo hi : Int) : inR n lo hi = true ↔ lo ≤ n ∧ n ≤ hi := by simp [inR]
def stepOk (s : Int × Int) : Bool := inR s.1 0 3 && inR s.2 1 3
/-- What a kind of record hasn't, of those that are no Begin. -/
def noBegin (x : Rc) : Bool := x.steps.isEmpty && x.data.isEmpty && hZ x.salt && !x.gone && hZ x.com
def noCall (x : Rc) : Bool := x.step == 0 && x.tr == 0 && !x.back
def noReceipt (x : Rc) : Bool := !x.good && hZ x.tag
def isCall (x : Rc) : Bool := inR x.seq 1 400 && inR x.step 0 5 && inR x.tr 1 9
/-- Is it right? -/
def rightB (x : Rc) : Bool :=
  if x.kind = 1 then inR x.saga 0 11 && x.seq == 0 && noCall x && noReceipt x && x.nd == 0 && x.part == 0 && x.epoch == 0 && inR x.steps.length 1 6 && x.steps.all stepOk && decide (x.data.length ≤ 60) && (if x.gone then x.data.isEmpty && hZ x.salt else hZ x.com)
  else if x.kind = 2 ∨ x.kind = 4 then inR x.saga 0 11 && isCall x && noReceipt x && x.nd == 0 && x.part == 0 && x.epoch == 0 && noBegin x
  else if x.kind = 3 then inR x.saga 0 11 && isCall x && x.nd == 0 && inR x.part 0 3 && inR x.epoch 0 400 && noBegin x
  else if x.kind = 5 then inR x.saga 0 11 && inR x.seq 1 400 && noCall x && noReceipt x && inR x.nd 2 4 && x.part == 0 && x.epoch == 0 && noBegin x
  else if x.kind = 6 then x.saga == 0 && x.seq == 0 && noCall x && noReceipt x && x.nd == 0 && inR x.part 0 3 && inR x.epoch 1 400 && noBegin x
  else false
section
variable (cm : (Nat → UInt8) → List UInt8 → Nat → UInt8)
/-- A Begin's commitment. -/
def comR (x : Rc) : Nat → UInt8 := if x.gone then x.com else cm x.salt x.data
def redact (x : Rc) : Rc := if x.kind = 1 then { x with gone := true, com := comR cm x, data := [], salt := fun _ => 0 } else x
def fB (b : Bool) : UInt8 := cond b 1 0
def stepsL (l : List (Int × Int)) : List UInt8 := l.flatMap fun s => numI s.1 ++ numI s.2
/-- What all calls' records begin with. -/
def callL (x : Rc) : List UInt8 := numI x.saga ++ (numI x.seq ++ (numI x.step ++ (numI x.tr ++ [fB x.back])))
def tailL (x : Rc) (com : List UInt8) : List UInt8 :=
  if x.kind = 1 then numI x.saga ++ (numI x.steps.length ++ (stepsL x.steps ++ com))
  else if x.kind = 2 ∨ x.kind = 4 then callL x
  else if x.kind = 3 then callL x ++ (fB x.good :: (numI x.part ++ (numI x.epoch ++ hL x.tag)))
  else if x.kind = 5 then numI x.saga ++ (numI x.seq ++ numI x.nd)
  else numI x.part ++ numI x.epoch
/-- Sealed bytes. -/
def sealedL (x : Rc) : List UInt8 := numI x.kind ++ tailL x (hL (comR cm x))
def payL (x : Rc) : List UInt8 := fB x.gone :: (if x.gone then hL x.com else hL x.salt ++ (numI x.data.length ++ x.data))
/-- Open bytes. -/
def openL (x : Rc) : List UInt8 := numI x.kind ++ tailL x (payL x)
/-- The same all through. -/
structure SameR (x y : Rc) : Prop where
  kind : x.kind = y.kind
  saga : x.saga = y.saga
  seq : x.seq = y.seq
  step : x.step = y.step
  tr : x.tr = y.tr
  back : x.back = y.back
  good : x.good = y.good
  nd : x.nd = y.nd
  part : x.part = y.part
  epoch : x.epoch = y.epoch
  tag : hL x.tag = hL y.tag
  steps : x.steps = y.steps
  data : x.data = y.data
  salt : hL x.salt = hL y.salt
  gone : x.gone = y.gone
  com : hL x.com = hL y.com
theorem num_cancel {m n : Int} {r s : List UInt8} (hm : 0 ≤ m ∧ m ≤ 2147483647) (hn : 0 ≤ n ∧ n ≤ 2147483647) (h : numI m ++ r = numI n ++ s) : m = n ∧ r = s := by
  obtain ⟨a, rfl⟩ := Int.eq_ofNat_of_zero_le hm.1
  obtain ⟨b, rfl⟩ := Int.eq_ofNat_of_zero_le hn.1
  rw [numI_nat a (by omega), numI_nat b (by omega)] at h
  have h1 := goN_put a (by omega) r
  rw [h, goN_put b (by omega) s] at h1
  simp only [Prod.mk.injEq] at h1
  obtain ⟨rfl, _⟩ := h1
  exact ⟨rfl, List.append_cancel_left h⟩
theorem fB_inj {a b : Bool} (h : fB a = fB b) : a = b := by cases a <;> cases b <;> first | rfl | (exact absurd h (by decide))
theorem steps_cancel : ∀ {l m : List (Int × Int)} {r s : List UInt8}, l.length = m.length → l.all stepOk = true → m.all stepOk = true → stepsL l ++ r = stepsL m ++ s → l = m ∧ r = s
  | [], [], r, s, _, _, _, h => ⟨rfl, h⟩
  | [], _ :: _, _, _, hl, _, _, _ => by simp at hl
  | _ :: _, [], _, _, hl, _, _, _ => by simp at hl
  | (a, b) :: l, (c, d) :: m, r, s, hl, h1, h2, h => by
    simp only [List.all_cons, Bool.and_eq_true, stepOk, inR_iff] at h1 h2
    simp only [stepsL, List.flatMap_cons, List.append_assoc] at h
    obtain ⟨e1, h⟩ := num_cancel (by omega) (by omega) h
    obtain ⟨e2, h⟩ := num_cancel (by omega) (by omega) h
    obtain ⟨e3, h⟩ := steps_cancel (by simpa using hl) h1.2 h2.2 h
    rw [e1, e2, e3]
    exact ⟨rfl, h⟩
theorem right_kind (x : Rc) (h : rightB x = true) : 1 ≤ x.kind ∧ x.kind ≤ 6 := by
  unfold rightB at h
  split at h
  · omega
  · split at h
    · omega
    · split at h
      · omega
      · split at h
        · omega
        · split at h
          · omega
          · cases h
theorem comR_redact (x : Rc) (h : x.kind = 1) : comR cm (redact cm x) = comR cm x := by
  unfold redact
  rw [if_pos h]
  show (if true = true then comR cm x else _) = _
  rw [if_pos rfl]
/-- What is redacted has the same sealed bytes. -/
theorem sealed_redact (x : Rc) : sealedL cm (redact cm x) = sealedL cm x := by
  by_cases h : x.kind = 1
  · unfold sealedL
    rw [comR_redact cm x h]
    unfold redact
    rw [if_pos h]
    rfl
  · unfold redact
    rw [if_neg h]
theorem redact_redact (x : Rc) : SameR (redact cm (redact cm x)) (redact cm x) := by
  by_cases h : x.kind = 1
  · have h2 : (redact cm x).kind = 1 := by unfold redact; rw [if_pos h]; exact h
    have e : redact cm (redact cm x) = { redact cm x with gone := true, com := comR cm (redact cm x), data := [], salt := fun _ => 0 } := by rw [redact, if_pos h2]
    rw [e, comR_redact cm x h]
    unfold redact
    rw [if_pos h]
    exact ⟨rfl, rfl, rfl, rfl, rfl, rfl, rfl, rfl, rfl, rfl, rfl, rfl, rfl, rfl, rfl, rfl⟩
  · have e : redact cm x = x := by unfold redact; rw [if_neg h]
    rw [e, e]
    exact ⟨rfl, rfl, rfl, rfl, rfl, rfl, rfl, rfl, rfl, rfl, rfl, rfl, rfl, rfl, rfl, rfl⟩
theorem right_redact (x : Rc) (h : rightB x = true) : rightB (redact cm x) = true := by
  unfold redact
  by_cases h1 : x.kind = 1
  · rw [if_pos h1]
    unfold rightB at h ⊢
    rw [if_pos h1] at h
    rw [if_pos h1]
    simp only [Bool.and_eq_true] at h ⊢
    obtain ⟨⟨h, _⟩, _⟩ := h
    refine ⟨⟨h, by simp⟩, ?_⟩
    simp [hZ]
  · rw [if_neg h1]; exact h
/-- Sealed bytes hang on the redacted record alone. -/
theorem sealed_same {x y : Rc} (h : SameR (redact cm x) (redact cm y)) : sealedL cm x = sealedL cm y := by
  rw [← sealed_redact cm x, ← sealed_redact cm y]
  have hk := h.kind
  have hc : x.kind = y.kind := by
    have a : ∀ z : Rc, (redact cm z).kind = z.kind := fun z => by unfold redact; split <;> rfl
    rw [a, a] at hk; exact hk
  have hcom : (redact cm x).kind = 1 → hL (comR cm (redact cm x)) = hL (comR cm (redact cm y)) := fun h1 => by
    have hx1 : x.kind = 1 := by
      have a : (redact cm x).kind = x.kind := by unfold redact; split <;> rfl
      rw [← a]; exact h1
    have a : ∀ z : Rc, z.kind = 1 → (redact cm z).com = comR cm (redact cm z) := fun z hz => by
      rw [comR_redact cm z hz]; unfold redact; rw [if_pos hz]
    rw [← a x hx1, ← a y (hc ▸ hx1)]
    exact h.com
  generalize redact cm x = u at *
  generalize redact cm y = v at *
  unfold sealedL tailL callL
  rw [h.kind, h.saga, h.seq, h.step, h.tr, h.back, h.good, h.nd, h.part, h.epoch, h.tag, h.steps]
  by_cases h1 : v.kind = 1
  · rw [if_pos h1, if_pos h1, hcom (h.kind ▸ h1)]
  · rw [if_neg h1, if_neg h1]
theorem open_same {x y : Rc} (h : SameR x y) : openL x = openL y := by
  unfold openL tailL callL payL
  rw [h.kind, h.saga, h.seq, h.step, h.tr, h.back, h.good, h.nd, h.part, h.epoch, h.tag, h.steps, h.gone, h.com, h.salt, h.data]
/-- Sealed bytes tell right records apart, but for what redacting leaves out. -/
theorem sealed_inj {x y : Rc} (hx : rightB x = true) (hy : rightB y = true) (h : sealedL cm x = sealedL cm y) : SameR (redact cm x) (redact cm y) := by
  have kx := right_kind x hx
  have ky := right_kind y hy
  unfold sealedL at h
  obtain ⟨ek, h⟩ := num_cancel (by omega) (by omega) h
  unfold tailL at h
  unfold rightB at hx hy
  unfold redact
  rw [← ek] at h hy ⊢
  by_cases k1 : x.kind = 1
  · rw [if_pos k1] at h hx hy
    rw [if_pos k1] at h
    rw [if_pos k1, if_pos k1]
    simp only [Bool.and_eq_true, inR_iff, noCall, noReceipt, beq_iff_eq, decide_eq_true_eq, Bool.not_eq_true'] at hx hy
    obtain ⟨⟨⟨⟨⟨⟨⟨⟨⟨⟨a1, a2⟩, ⟨a3, a4⟩, a5⟩, a6, a7⟩, a8⟩, a9⟩, a10⟩, a11⟩, a12⟩, a13⟩, a14⟩ := hx
    obtain ⟨⟨⟨⟨⟨⟨⟨⟨⟨⟨b1, b2⟩, ⟨b3, b4⟩, b5⟩, b6, b7⟩, b8⟩, b9⟩, b10⟩, b11⟩, b12⟩, b13⟩, b14⟩ := hy
    obtain ⟨e1, h⟩ := num_cancel (by omega) (by omega) h
    obtain ⟨e2, h⟩ := num_cancel (by omega) (by omega) h
    obtain ⟨e3, h⟩ := steps_cancel (by omega) a12 b12 h
    exact ⟨rfl, e1, a2.trans b2.symm, a3.trans b3.symm, a4.trans b4.symm, a5.trans b5.symm, a6.trans b6.symm, a8.trans b8.symm, a9.trans b9.symm, a10.trans b10.symm, (hZ_hL _ a7).trans (hZ_hL _ b7).symm, e3, rfl, rfl, rfl, h⟩
  rw [if_neg k1] at h hx hy
  rw [if_neg k1] at h
  rw [if_neg k1, if_neg k1]
  by_cases k2 : x.kind = 2 ∨ x.kind = 4
  · rw [if_pos k2] at h hx hy
    rw [if_pos k2] at h
    simp only [Bool.and_eq_true, inR_iff, isCall, noReceipt, noBegin, beq_iff_eq, Bool.not_eq_true', List.isEmpty_iff] at hx hy
    obtain ⟨⟨⟨⟨⟨⟨a1, ⟨a2, a3⟩, a4⟩, a5, a6⟩, a7⟩, a8⟩, a9⟩, ⟨⟨⟨a10, a11⟩, a12⟩, a13⟩, a14⟩ := hx
    obtain ⟨⟨⟨⟨⟨⟨b1, ⟨b2, b3⟩, b4⟩, b5, b6⟩, b7⟩, b8⟩, b9⟩, ⟨⟨⟨b10, b11⟩, b12⟩, b13⟩, b14⟩ := hy
    unfold callL at h
    obtain ⟨e1, h⟩ := num_cancel (by omega) (by omega) h
    obtain ⟨e2, h⟩ := num_cancel (by omega) (by omega) h
    obtain ⟨e3, h⟩ := num_cancel (by omega) (by omega) h
    obtain ⟨e4, h⟩ := num_cancel (by omega) (by omega) h
    exact ⟨ek, e1, e2, e3, e4, fB_inj (by simpa using h), a5.trans b5.symm, a7.trans b7.symm, a8.trans b8.symm, a9.trans b9.symm, (hZ_hL _ a6).trans (hZ_hL _ b6).symm, a10.trans b10.symm, a11.trans b11.symm, (hZ_hL _ a12).trans (hZ_hL _ b12).symm, a13.trans b13.symm, (hZ_hL _ a14).trans (hZ_hL _ b14).symm⟩
  rw [if_neg k2] at h hx hy
  rw [if_neg k2] at h
  by_cases k3 : x.kind = 3
  · rw [if_pos k3] at h hx hy
    rw [if_pos k3] at h
    simp only [Bool.and_eq_true, inR_iff, isCall, noBegin, beq_iff_eq, Bool.not_eq_true', List.isEmpty_iff] at hx hy
    obtain ⟨⟨⟨⟨⟨a1, ⟨a2, a3⟩, a4⟩, a7⟩, a8⟩, a9⟩, ⟨⟨⟨a10, a11⟩, a12⟩, a13⟩, a14⟩ := hx
    obtain ⟨⟨⟨⟨⟨b1, ⟨b2, b3⟩, b4⟩, b7⟩, b8⟩, b9⟩, ⟨⟨⟨b10, b11⟩, b12⟩, b13⟩, b14⟩ := hy
    unfold callL at h
    simp only [List.append_assoc] at h
    obtain ⟨e1, h⟩ := num_cancel (by omega) (by omega) h
    obtain ⟨e2, h⟩ := num_cancel (by omega) (by omega) h
    obtain ⟨e3, h⟩ := num_cancel (by omega) (by omega) h
    obtain ⟨e4, h⟩ := num_cancel (by omega) (by omega) h
    simp only [List.cons_append, List.nil_append, List.cons.injEq] at h
    obtain ⟨e5, e6, h⟩ := h
    obtain ⟨e7, h⟩ := num_cancel (by omega) (by omega) h
    obtain ⟨e8, h⟩ := num_cancel (by omega) (by omega) h
    exact ⟨ek, e1, e2, e3, e4, fB_inj e5, fB_inj e6, a7.trans b7.symm, e7, e8, h, a10.trans b10.symm, a11.trans b11.symm, (hZ_hL _ a12).trans (hZ_hL _ b12).symm, a13.trans b13.symm, (hZ_hL _ a14).trans (hZ_hL _ b14).symm⟩
  rw [if_neg k3] at h hx hy
  rw [if_neg k3] at h
  by_cases k5 : x.kind = 5
  · rw [if_pos k5] at h hx hy
    rw [if_pos k5] at h
    simp only [Bool.and_eq_true, inR_iff, noCall, noReceipt, noBegin, beq_iff_eq, Bool.not_eq_true', List.isEmpty_iff] at hx hy
    obtain ⟨⟨⟨⟨⟨⟨⟨a1, a2⟩, ⟨a3, a4⟩, a5⟩, a6, a7⟩, a8⟩, a9⟩, aA⟩, ⟨⟨⟨a10, a11⟩, a12⟩, a13⟩, a14⟩ := hx
    obtain ⟨⟨⟨⟨⟨⟨⟨b1, b2⟩, ⟨b3, b4⟩, b5⟩, b6, b7⟩, b8⟩, b9⟩, bA⟩, ⟨⟨⟨b10, b11⟩, b12⟩, b13⟩, b14⟩ := hy
    obtain ⟨e1, h⟩ := num_cancel (by omega) (by omega) h
    obtain ⟨e2, h⟩ := num_cancel (by omega) (by omega) h
    obtain ⟨e3, _⟩ := num_cancel (r := []) (s := []) (m := x.nd) (n := y.nd) (by omega) (by omega) (by simpa using h)
    exact ⟨ek, e1, e2, a3.trans b3.symm, a4.trans b4.symm, a5.trans b5.symm, a6.trans b6.symm, e3, a9.trans b9.symm, aA.trans bA.symm, (hZ_hL _ a7).trans (hZ_hL _ b7).symm, a10.trans b10.symm, a11.trans b11.symm, (hZ_hL _ a12).trans (hZ_hL _ b12).symm, a13.trans b13.symm, (hZ_hL _ a14).trans (hZ_hL _ b14).symm⟩
  rw [if_neg k5] at h hx hy
  rw [if_neg k5] at h
  have k6 : x.kind = 6 := by omega
  rw [if_pos k6] at hx hy
  simp only [Bool.and_eq_true, inR_iff, noCall, noReceipt, noBegin, beq_iff_eq, Bool.not_eq_true', List.isEmpty_iff] at hx hy
  obtain ⟨⟨⟨⟨⟨⟨⟨a1, a2⟩, ⟨a3, a4⟩, a5⟩, a6, a7⟩, a8⟩, a9⟩, aA⟩, ⟨⟨⟨a10, a11⟩, a12⟩, a13⟩, a14⟩ := hx
  obtain ⟨⟨⟨⟨⟨⟨⟨b1, b2⟩, ⟨b3, b4⟩, b5⟩, b6, b7⟩, b8⟩, b9⟩, bA⟩, ⟨⟨⟨b10, b11⟩, b12⟩, b13⟩, b14⟩ := hy
  obtain ⟨e1, h⟩ := num_cancel (by omega) (by omega) h
  obtain ⟨e3, _⟩ := num_cancel (r := []) (s := []) (m := x.epoch) (n := y.epoch) (by omega) (by omega) (by simpa using h)
  exact ⟨ek, a1.trans b1.symm, a2.trans b2.symm, a3.trans b3.symm, a4.trans b4.symm, a5.trans b5.symm, a6.trans b6.symm, a8.trans b8.symm, e1, e3, (hZ_hL _ a7).trans (hZ_hL _ b7).symm, a10.trans b10.symm, a11.trans b11.symm, (hZ_hL _ a12).trans (hZ_hL _ b12).symm, a13.trans b13.symm, (hZ_hL _ a14).trans (hZ_hL _ b14).symm⟩
theorem sealed_iff {x y : Rc} (hx : rightB x = true) (hy : rightB y = true) : sealedL cm x = sealedL cm y ↔ SameR (redact cm x) (redact cm y) := ⟨sealed_inj cm hx hy, sealed_same cm⟩
theorem numI_small (k : Int) (h : 0 ≤ k) (h2 : k < 128) : numI k = [uB k.toNat] := by
  unfold numI numL
  rw [if_pos (by omega), if_pos (by omega)]
theorem open_other (x : Rc) (h : x.kind ≠ 1) : openL x = sealedL cm x := by
  unfold openL sealedL tailL
  rw [if_neg h, if_neg h]
theorem open_length (x : Rc) (h : x.kind = 1) : (openL x).length = (sealedL cm x).length + (if x.gone then 1 else 1 + (numI x.data.length).length + x.data.length) := by
  unfold openL sealedL tailL payL
  rw [if_pos h, if_pos h]
  cases x.gone
  · simp [hL_length]; omega
  · simp [hL_length]; omega
theorem numI_pos (n : Nat) (h : n ≤ 2147483647) : 1 ≤ (numI (n : Int)).length := by rw [numI_nat n h, numL_length]; exact sz_pos n
end
end Go.Proofs.YtchpmdcacpjojaaDoor
/- A record that came in, opened: a struct by value of 109 cells, read as a record on lists. No program is named here but by its facts on types. -/
namespace Go.Proofs.YtchpmdcacpjojaaDoor
open Go Go.ChangeShapes Go.WideShapes Go.ChangeAt Go.WideMaps Go.WideElems Go.RowKit
set_option maxRecDepth 8000
set_option linter.all false

section
variable {H : Type} {enc : TypeId × Value → H} {P : Program} {w : World} {base : Nat} {spare : Nat → Bool} {held : Bool}
theorem open_fields {r : Reach} {b0 : Nat} {t : TypeId} {fs : Array Field} {v : Value} {d : DataW H} {p : List MemPlace} (hs : P.underlying t = some (.struct fs)) (hv : Value.okWide P w r b0 t v) (h : DataW.Trod enc P w base spare held t v d p) :
    ∃ (cs : Array Value) (n : Nat), v = .agg cs ∧ cs.size = P.cellsOf t ∧ ∀ (i : Nat) (f : Field), fs[i]? = some f → ∃ y, DataW.trod enc P w base spare held n f.type ((cs.toList.drop f.offset).take (P.cellsOf f.type)) = some y := by
  obtain ⟨cs, rfl, hsz⟩ := okWide_struct hs hv
  obtain ⟨fuel, hf⟩ := h
  obtain ⟨xs, n, _, _, _, hl, hx⟩ := DataW.trod_struct hs hf
  refine ⟨cs, n, rfl, hsz, fun i f hi => ?_⟩
  have hlt : i < xs.length := by rw [hl]; exact (Array.getElem?_eq_some_iff.1 hi).1
  exact ⟨xs[i], by rw [← List.getElem?_eq_getElem hlt]; exact hx i f hi⟩
theorem take_one {cs : Array Value} {o : Nat} {c : Value} (h : (cs.toList.drop o).take 1 = [c]) : cs[o]? = some c := by
  have := congrArg (·[0]?) h
  simpa using this
variable {n : Nat} {ty : TypeId} {o : Nat} {cs : Array Value}
theorem field_int {k : IntKind} (hT : P.underlying ty = some (.int k)) (hc : P.cellsOf ty = 1) (h : ∃ y, DataW.trod enc P w base spare held n ty ((cs.toList.drop o).take (P.cellsOf ty)) = some y) : ∃ z, cs[o]? = some (.int k z) ∧ (Lit.int k z).wf = true := by
  obtain ⟨y, h⟩ := h
  obtain ⟨z, hz, _, hw⟩ := DataW.trod_int hT h
  rw [hc] at hz
  exact ⟨z, take_one hz, hw⟩
theorem field_bool (hT : P.underlying ty = some .bool) (hc : P.cellsOf ty = 1) (h : ∃ y, DataW.trod enc P w base spare held n ty ((cs.toList.drop o).take (P.cellsOf ty)) = some y) : ∃ b, cs[o]? = some (.bool b) := by
  obtain ⟨y, h⟩ := h
  obtain ⟨b, hb, _⟩ := DataW.trod_bool hT h
  rw [hc] at hb
  exact ⟨b, take_one hb⟩
theorem field_hash {e : TypeId} {m : Nat} (hT : P.underlying ty = some (.array m e)) (he : P.underlying e = some (.int .u8)) (hc : P.cellsOf ty = m) (hce : P.cellsOf e = 1) (h : ∃ y, DataW.trod enc P w base spare held n ty ((cs.toList.drop o).take (P.cellsOf ty)) = some y) : ∃ d : Nat → UInt8, ∀ i, i < m → cs[o + i]? = some (.int .u8 (bN (d i))) := by
  obtain ⟨y, h⟩ := h
  obtain ⟨xs, n', _, _, hl, hxl, hel⟩ := DataW.trod_array hT h
  have hall : ∀ i, i < m → ∃ z, cs[o + i]? = some (.int .u8 z) ∧ (Lit.int .u8 z).wf = true := fun i hi => by
    have h1 := hel i hi
    rw [hce, Nat.mul_one, List.getElem?_eq_getElem (by omega)] at h1
    obtain ⟨z, hz, _, hw⟩ := DataW.trod_int he h1
    refine ⟨z, ?_, hw⟩
    have := congrArg (·[0]?) hz
    rw [hc] at this
    simpa [List.getElem?_take, List.getElem?_drop, hi] using this
  refine ⟨fun i => match cs[o + i]? with | some (.int _ z) => UInt8.ofNat z.toNat | _ => 0, fun i hi => ?_⟩
  obtain ⟨z, hz, hw⟩ := hall i hi
  have hb := bounds_u8 hw
  simp only [hz]
  unfold bN
  rw [UInt8.toNat_ofNat']
  congr 2
  omega
theorem field_bytes {e : TypeId} (hT : P.underlying ty = some (.slice e)) (he : P.underlying e = some (.int .u8)) (hc : P.cellsOf ty = 1) (hce : P.cellsOf e = 1) (h : ∃ y, DataW.trod enc P w base spare held n ty ((cs.toList.drop o).take (P.cellsOf ty)) = some y) : ∃ v l, cs[o]? = some v ∧ RdV w [] v l := by
  obtain ⟨y, h⟩ := h
  rw [hc] at h
  rcases open_ints hT he hce h with ⟨hcs, _⟩ | ⟨a, len, cap, zs, hcs, _, hl, hm, hz, _, hcell, hwz⟩
  · exact ⟨_, [], take_one hcs, none, 0, rfl, by simp, by unfold maxLen; omega, fun h0 => absurd h0 (by simp)⟩
  · have hlz : len ≤ zs.length := by rw [hz]; split <;> omega
    have hlen : ((zs.take len).map fun z => UInt8.ofNat z.toNat).length = len := by simp; omega
    refine ⟨_, (zs.take len).map fun z => UInt8.ofNat z.toNat, take_one hcs, some a, cap, by rw [hlen], by rw [hlen]; exact hl, hm, fun h0 => ?_⟩
    rw [hlen] at h0
    obtain ⟨b, off, rfl, hc⟩ := ints_at hcell (by omega)
    refine ⟨b, off, rfl, by simp, fun i hi => ?_⟩
    rw [hlen] at hi
    rw [hc i (by omega)]
    have hzi : zs[i]? = some zs[i] := List.getElem?_eq_getElem (by omega)
    have hb := bounds_u8 (hwz zs[i] (List.getElem_mem (by omega)))
    have e1 : bAt ((zs.take len).map fun z => UInt8.ofNat z.toNat) i = UInt8.ofNat zs[i].toNat := by simp [bAt, hi, hzi]
    rw [e1]
    unfold bN
    rw [UInt8.toNat_ofNat']
    simp [List.getD, hzi]
    omega
/-- A slice of pairs of numbers reads as l. -/
def RdP (W : World) (v : Value) (l : List (Int × Int)) : Prop :=
  ∃ A cap, v = .slice A l.length cap ∧ l.length ≤ cap ∧ cap ≤ maxLen ∧ (0 < l.length → ∃ b o, A = some ⟨b, o, none⟩ ∧ ∀ i, i < l.length → W.cell? ⟨b, o + 2 * i, none⟩ = some (.int .i64 (l.getD i (0, 0)).1) ∧ W.cell? ⟨b, o + 2 * i + 1, none⟩ = some (.int .i64 (l.getD i (0, 0)).2))
theorem NewT.pairs {w w' : World} (h : NewT w w') {v : Value} {l : List (Int × Int)} (hr : RdP w v l) : RdP w' v l := by
  obtain ⟨A, cap, hv, h1, h2, h3⟩ := hr
  refine ⟨A, cap, hv, h1, h2, fun h0 => ?_⟩
  obtain ⟨b, o, hA, hc⟩ := h3 h0
  refine ⟨b, o, hA, fun i hi => ⟨?_, ?_⟩⟩
  · exact (h.out.cell (p := ⟨b, o + 2 * i, none⟩) (World.block_lt_of_cell? _ _ (hc i hi).1)).trans (hc i hi).1
  · exact (h.out.cell (p := ⟨b, o + 2 * i + 1, none⟩) (World.block_lt_of_cell? _ _ (hc i hi).2)).trans (hc i hi).2
theorem field_pairs {e : TypeId} {f0 f1 : Field} (hT : P.underlying ty = some (.slice e)) (he : P.underlying e = some (.struct #[f0, f1])) (ce : P.cellsOf e = 2) (o0 : f0.offset = 0) (o1 : f1.offset = 1) (c0 : P.cellsOf f0.type = 1) (c1 : P.cellsOf f1.type = 1)
    (t0 : P.underlying f0.type = some (.int .i64)) (t1 : P.underlying f1.type = some (.int .i64)) (hc : P.cellsOf ty = 1) (h : ∃ y, DataW.trod enc P w base spare held n ty ((cs.toList.drop o).take (P.cellsOf ty)) = some y) : ∃ v l, cs[o]? = some v ∧ RdP w v l := by
  obtain ⟨y, h⟩ := h
  rw [hc] at h
  rcases Go.Deep.open_slice_pairs hT he ce o0 o1 c0 c1 h with ⟨hcs, _⟩ | ⟨a, len, cap, m, n', V0, V1, D0, D1, P0, P1, hcs, _, hl, hm, hmm, _, hx⟩
  · exact ⟨_, [], take_one hcs, none, 0, rfl, by simp, by unfold maxLen; omega, fun h0 => absurd h0 (by simp)⟩
  · have hlm : len ≤ m := by rw [hmm]; split <;> omega
    have hi : ∀ i, i < len → ∃ z0 z1, V0 i = .int .i64 z0 ∧ V1 i = .int .i64 z1 := fun i hi => by
      obtain ⟨_, _, h0, h1⟩ := hx i (by omega)
      obtain ⟨z0, e0, _⟩ := DataW.trod_int t0 h0
      obtain ⟨z1, e1, _⟩ := DataW.trod_int t1 h1
      exact ⟨z0, z1, by simpa using e0, by simpa using e1⟩
    let g : Nat → Int × Int := fun i => (match V0 i with | .int _ z => z | _ => 0, match V1 i with | .int _ z => z | _ => 0)
    have hlen : ((List.range len).map g).length = len := by simp
    refine ⟨_, (List.range len).map g, take_one hcs, some a, cap, by rw [hlen], by rw [hlen]; exact hl, hm, fun h0 => ?_⟩
    rw [hlen] at h0
    obtain ⟨b, off, spot⟩ := a
    have hspot : spot = none := by simpa [Addr.add] using World.cell?_spot (hx 0 (by omega)).1
    subst hspot
    refine ⟨b, off, rfl, fun i hil => ?_⟩
    rw [hlen] at hil
    obtain ⟨k0, k1, _, _⟩ := hx i (by omega)
    obtain ⟨z0, z1, e0, e1⟩ := hi i hil
    have hg : ((List.range len).map g).getD i (0, 0) = (z0, z1) := by simp [hil, g, e0, e1]
    rw [hg]
    rw [Go.WideShapes.add_plain, e0] at k0
    rw [Go.WideShapes.add_plain, e1] at k1
    refine ⟨by rw [Nat.mul_comm 2 i]; exact k0, by rw [Nat.mul_comm 2 i, Nat.add_assoc]; exact k1⟩
end
/-- The cells of a record. -/
def recF (x : Rc) (sv dv : Value) (i : Nat) : Value :=
  if i < 10 then (if i = 0 then .int .i64 x.kind else if i = 1 then .int .i64 x.saga else if i = 2 then .int .i64 x.seq else if i = 3 then .int .i64 x.step else if i = 4 then .int .i64 x.tr else if i = 5 then .bool x.back else if i = 6 then .bool x.good else if i = 7 then .int .i64 x.nd else if i = 8 then .int .i64 x.part else .int .i64 x.epoch)
  else if i < 42 then bF x.tag (i - 10) else if i = 42 then sv else if i = 43 then dv else if i < 76 then bF x.salt (i - 44) else if i = 76 then .bool x.gone else bF x.com (i - 77)
/-- A value that is a record. -/
def RecV (w : World) (v : Value) (x : Rc) : Prop := ∃ sv dv, v = .agg (rowA 109 (recF x sv dv)) ∧ RdP w sv x.steps ∧ RdV w [] dv x.data
theorem NewT.recV {w w' : World} (h : NewT w w') {v : Value} {x : Rc} (hr : RecV w v x) : RecV w' v x := by
  obtain ⟨sv, dv, h1, h2, h3⟩ := hr
  exact ⟨sv, dv, h1, h.pairs h2, h.rd h3⟩
/-- What a program's types must say of a record's 16 fields. -/
structure RecTy (P : Program) (t : TypeId) : Prop where
  fields : ∃ fs : Array Field, P.underlying t = some (.struct fs) ∧ P.cellsOf t = 109 ∧
    (∀ i, i ∈ [0, 1, 2, 3, 4, 7, 8, 9] → ∃ f, fs[i]? = some f ∧ f.offset = i ∧ P.underlying f.type = some (.int .i64) ∧ P.cellsOf f.type = 1) ∧
    (∀ i, i ∈ [(5, 5), (6, 6), (14, 76)] → ∃ f, fs[i.1]? = some f ∧ f.offset = i.2 ∧ P.underlying f.type = some .bool ∧ P.cellsOf f.type = 1) ∧
    (∀ i, i ∈ [(10, 10), (13, 44), (15, 77)] → ∃ f e, fs[i.1]? = some f ∧ f.offset = i.2 ∧ P.underlying f.type = some (.array 32 e) ∧ P.underlying e = some (.int .u8) ∧ P.cellsOf f.type = 32 ∧ P.cellsOf e = 1) ∧
    (∃ f e f0 f1, fs[11]? = some f ∧ f.offset = 42 ∧ P.underlying f.type = some (.slice e) ∧ P.underlying e = some (.struct #[f0, f1]) ∧ P.cellsOf e = 2 ∧ f0.offset = 0 ∧ f1.offset = 1 ∧ P.cellsOf f0.type = 1 ∧ P.cellsOf f1.type = 1 ∧ P.underlying f0.type = some (.int .i64) ∧ P.underlying f1.type = some (.int .i64) ∧ P.cellsOf f.type = 1) ∧
    (∃ f e, fs[12]? = some f ∧ f.offset = 43 ∧ P.underlying f.type = some (.slice e) ∧ P.underlying e = some (.int .u8) ∧ P.cellsOf f.type = 1 ∧ P.cellsOf e = 1)
set_option maxHeartbeats 1000000 in
/-- A record's cells that came in. -/
theorem open_recC {H : Type} {enc : TypeId × Value → H} {P : Program} {w : World} {base : Nat} {spare : Nat → Bool} {held : Bool} {t : TypeId} {n : Nat} {cs : Array Value} (ht : RecTy P t) (hsz : cs.size = 109)
    (hf0 : ∀ fs : Array Field, P.underlying t = some (.struct fs) → ∀ (i : Nat) (f : Field), fs[i]? = some f → ∃ y, DataW.trod enc P w base spare held n f.type ((cs.toList.drop f.offset).take (P.cellsOf f.type)) = some y) :
    ∃ x : Rc, RecV w (.agg cs) x ∧ ∀ z, z ∈ [x.kind, x.saga, x.seq, x.step, x.tr, x.nd, x.part, x.epoch] → (Lit.int .i64 z).wf = true := by
  obtain ⟨fs, hs, hct, hint, hbool, hhash, ⟨fS, eS, f0, f1, iS, oS, tS, teS, ceS, o0, o1, c0, c1, t0, t1, cS⟩, ⟨fD, eD, iD, oD, tD, teD, cD, ceD⟩⟩ := ht.fields
  have hf := hf0 fs hs
  have gi : ∀ i, i ∈ [0, 1, 2, 3, 4, 7, 8, 9] → ∃ z, cs[i]? = some (.int .i64 z) ∧ (Lit.int .i64 z).wf = true := fun i hi => by
    obtain ⟨f, h1, h2, h3, h4⟩ := hint i hi
    have := hf i f h1
    rw [h2] at this
    exact field_int h3 h4 this
  have gb : ∀ i, i ∈ [(5, 5), (6, 6), (14, 76)] → ∃ b, cs[i.2]? = some (.bool b) := fun i hi => by
    obtain ⟨f, h1, h2, h3, h4⟩ := hbool i hi
    have := hf i.1 f h1
    rw [h2] at this
    exact field_bool h3 h4 this
  have gh : ∀ i, i ∈ [(10, 10), (13, 44), (15, 77)] → ∃ d : Nat → UInt8, ∀ j, j < 32 → cs[i.2 + j]? = some (.int .u8 (bN (d j))) := fun i hi => by
    obtain ⟨f, e, h1, h2, h3, h4, h5, h6⟩ := hhash i hi
    have := hf i.1 f h1
    rw [h2] at this
    exact field_hash h3 h4 h5 h6 this
  have gS := hf 11 fS iS
  rw [oS] at gS
  obtain ⟨sv, ls, hS, rS⟩ := field_pairs tS teS ceS o0 o1 c0 c1 t0 t1 cS gS
  have gD := hf 12 fD iD
  rw [oD] at gD
  obtain ⟨dv, ld, hD, rD⟩ := field_bytes tD teD cD ceD gD
  obtain ⟨z0, k0, w0⟩ := gi 0 (by simp)
  obtain ⟨z1, k1, w1⟩ := gi 1 (by simp)
  obtain ⟨z2, k2, w2⟩ := gi 2 (by simp)
  obtain ⟨z3, k3, w3⟩ := gi 3 (by simp)
  obtain ⟨z4, k4, w4⟩ := gi 4 (by simp)
  obtain ⟨z7, k7, w7⟩ := gi 7 (by simp)
  obtain ⟨z8, k8, w8⟩ := gi 8 (by simp)
  obtain ⟨z9, k9, w9⟩ := gi 9 (by simp)
  obtain ⟨b5, k5⟩ := gb (5, 5) (by simp)
  obtain ⟨b6, k6⟩ := gb (6, 6) (by simp)
  obtain ⟨bg, kg⟩ := gb (14, 76) (by simp)
  obtain ⟨d1, kd1⟩ := gh (10, 10) (by simp)
  obtain ⟨d2, kd2⟩ := gh (13, 44) (by simp)
  obtain ⟨d3, kd3⟩ := gh (15, 77) (by simp)
  refine ⟨⟨z0, z1, z2, z3, z4, b5, b6, z7, z8, z9, d1, ls, ld, d2, bg, d3⟩, ⟨sv, dv, ?_, rS, rD⟩, fun z hz => ?_⟩
  · congr 1
    apply Array.ext_getElem?
    intro i
    by_cases hi : i < 109
    · rw [rowA_at _ _ _ hi]
      unfold recF
      by_cases h10 : i < 10
      · rw [if_pos h10]
        have : i = 0 ∨ i = 1 ∨ i = 2 ∨ i = 3 ∨ i = 4 ∨ i = 5 ∨ i = 6 ∨ i = 7 ∨ i = 8 ∨ i = 9 := by omega
        rcases this with rfl | rfl | rfl | rfl | rfl | rfl | rfl | rfl | rfl | rfl <;> simpa
      rw [if_neg h10]
      by_cases h42 : i < 42
      · rw [if_pos h42]
        have := kd1 (i - 10) (by omega)
        rw [show (10, 10).2 + (i - 10) = i by simp; omega] at this
        exact this
      rw [if_neg h42]
      by_cases e42 : i = 42
      · subst e42; rw [if_pos rfl]; exact hS
      rw [if_neg e42]
      by_cases e43 : i = 43
      · subst e43; rw [if_pos rfl]; exact hD
      rw [if_neg e43]
      by_cases h76 : i < 76
      · rw [if_pos h76]
        have := kd2 (i - 44) (by omega)
        rw [show (13, 44).2 + (i - 44) = i by simp; omega] at this
        exact this
      rw [if_neg h76]
      by_cases e76 : i = 76
      · subst e76; rw [if_pos rfl]; exact kg
      rw [if_neg e76]
      have := kd3 (i - 77) (by omega)
      rw [show (15, 77).2 + (i - 77) = i by simp; omega] at this
      exact this
    · rw [Array.getElem?_eq_none (by omega), Array.getElem?_eq_none (by rw [rowA_size]; omega)]
  · simp only [List.mem_cons, List.not_mem_nil, or_false] at hz
    rcases hz with rfl | rfl | rfl | rfl | rfl | rfl | rfl | rfl <;> assumption
theorem open_rec {H : Type} {enc : TypeId × Value → H} {P : Program} {w : World} {base : Nat} {spare : Nat → Bool} {held : Bool} {r : Reach} {b0 : Nat} {t : TypeId} {v : Value} {d : DataW H} {p : List MemPlace} (ht : RecTy P t) (hv : Value.okWide P w r b0 t v) (h : DataW.Trod enc P w base spare held t v d p) :
    ∃ x : Rc, RecV w v x ∧ ∀ z, z ∈ [x.kind, x.saga, x.seq, x.step, x.tr, x.nd, x.part, x.epoch] → (Lit.int .i64 z).wf = true := by
  obtain ⟨fs, hs, hct, _⟩ := ht.fields
  obtain ⟨cs, n, rfl, hsz, hf⟩ := open_fields hs hv h
  refine open_recC (H := H) (enc := enc) (base := base) (spare := spare) (held := held) (n := n) ht (hsz.trans hct) fun fs' hs' => ?_
  rw [hs] at hs'
  cases hs'
  exact hf
end Go.Proofs.YtchpmdcacpjojaaDoor
/- Fields of a struct by value and in memory: a cell, a row of cells. No program is named here. -/
namespace Go.Proofs.YtchpmdcacpjojaaDoor
open Go Go.RowKit
set_option maxRecDepth 8000
set_option linter.all false

theorem rowA_extract (n : Nat) (g : Nat → Value) (o m : Nat) (h : o + m ≤ n) : (rowA n g).extract o (o + m) = rowA m fun j => g (o + j) := by
  apply Array.ext_getElem?
  intro i
  by_cases hi : i < m
  · rw [rowA_at _ _ _ hi, Array.getElem?_extract_of_lt (by rw [rowA_size]; omega), ← Array.getElem?_eq_getElem, rowA_at _ _ _ (by omega)]
  · rw [Array.getElem?_eq_none (by simp [rowA_size]; omega), Array.getElem?_eq_none (by rw [rowA_size]; omega)]
section
variable {P : Program} {t : TypeId} {fs : Array Field} {f : Field} {i n : Nat}
theorem run_isAgg_no {d : TypeDesc} {e : TypeId} (he : P.underlying e = some d) (hd : d.isRow = false) (w : World) : (isAgg e).run P w = .ok false w := by
  unfold isAgg
  rw [Sem.run_bind, run_underlying he w]
  cases d <;> simp_all
theorem run_field_cell {d : TypeDesc} (hu : P.underlying t = some (.struct fs)) (hf : fs[i]? = some f) (he : P.underlying f.type = some d) (hd : d.isRow = false) (g : Nat → Value) (ho : f.offset < n) (w : World) : (Instr.field t (.agg (rowA n g)) i).run P w = .ok (g f.offset) w := by
  have hat := rowA_at n g f.offset ho
  simp [Instr.field, run_underlying hu, hf, asAgg, part, run_isAgg_no he hd, hat]
theorem run_field_row {m : Nat} {e : TypeId} (hu : P.underlying t = some (.struct fs)) (hf : fs[i]? = some f) (he : P.underlying f.type = some (.array m e)) (hs : (P.info? f.type).map (·.size) = some m) (g : Nat → Value) (ho : f.offset + m ≤ n) (w : World) : (Instr.field t (.agg (rowA n g)) i).run P w = .ok (.agg (rowA m fun j => g (f.offset + j))) w := by
  have hsz : (sizeOf f.type).run P w = .ok m w := by
    cases hq : P.info? f.type with
    | none => simp [hq] at hs
    | some i => simp [hq] at hs; simp [sizeOf, typeInfo, hq, hs]
  have hagg : (isAgg f.type).run P w = .ok true w := by
    unfold isAgg
    rw [Sem.run_bind, run_underlying he w]
    rfl
  have hx := rowA_extract n g f.offset m ho
  simp [Instr.field, run_underlying hu, hf, asAgg, part, hagg, hsz, hx]
end
/-- A part of a row. -/
theorem rangeAt_part {w : World} {b : Nat} {t : TypeId} {n : Nat} {f : Nat → Value} (h : w.rowIs b t n f) (o m : Nat) (hm : o + m ≤ n) : w.rangeAt b o (rowA m fun j => f (o + j)).toList := fun j v hv => by
  rw [rowA_toList, List.getElem?_map] at hv
  cases hj : (List.range m)[j]? with
  | none => rw [hj] at hv; simp at hv
  | some k =>
    rw [hj] at hv
    obtain ⟨hlt, hk⟩ := List.getElem?_eq_some_iff.1 hj
    simp at hlt hk
    subst hk
    simp at hv
    subst hv
    exact h.cell (by omega)
end Go.Proofs.YtchpmdcacpjojaaDoor
/- A region that draws its order, whose last operations come one behind the other: the rest is gone through once, in the text's order, and the last ones then as they stand. No program is named here. -/
namespace Go.Proofs.YtchpmdcacpjojaaDoor
open Go
set_option maxRecDepth 8000
set_option linter.all false

section
variable {P : Program} {ops : Array Oper} {Q : Exit → Act → World → Prop} {T : World → World → Prop} {V : List (SV T)} {a0 : Act} {w0 : World} {n : Nat} {D : Deps} {init tail : List Oper}

theorem split_at (hsplit : ops.toList = init ++ tail) : ops.size = init.length + tail.length ∧ (∀ (k : Nat) (o : Oper), init[k]? = some o → ops[k]? = some o) ∧ ∀ k : Nat, ops[init.length + k]? = tail[k]? := by
  have e : ops = (init ++ tail).toArray := by rw [← hsplit]
  subst e
  refine ⟨by simp, fun k o hk => ?_, fun k => ?_⟩
  · have hlt := (List.getElem?_eq_some_iff.1 hk).1
    simp [List.getElem?_append_left hlt, hk]
  · simp [List.getElem?_append_right]
/-- The last ones look back alone, each waits for the one ahead. -/
def tailB (ops : Array Oper) (tail : List Oper) (m : Nat) : Bool :=
  (List.range tail.length).all fun t => (match tail[t]? with | some o => o.after.all (fun e => !Region.binds .any e || decide (e.on < m + t)) | none => true) && (decide (t = 0) || Region.waitsFor .any ops (m + t) (m + t - 1))

theorem tail_seq (hsplit : ops.toList = init ++ tail) (hB : tailB ops tail init.length = true) : ∀ (f k : Nat) (listed : Array Bool) (a : Act) (w : World), k + f = tail.length → listed.size = ops.size →
    (∀ j, j < init.length + k → listed.getD j false = true) → (∀ j, init.length + k ≤ j → j < ops.size → listed.getD j true = false) → wpList P ops Q (tail.drop k) a w → wpAny P .any ops Q f listed a w := by
  obtain ⟨hsz, _, htl⟩ := split_at hsplit
  have hb : ∀ t, t < tail.length → (∀ o, tail[t]? = some o → ∀ e ∈ o.after, Region.binds .any e = true → e.on < init.length + t) ∧ (t = 0 ∨ Region.waitsFor .any ops (init.length + t) (init.length + t - 1) = true) := fun t ht => by
    have h := List.all_eq_true.1 hB t (List.mem_range.2 ht)
    simp only [Bool.and_eq_true, Bool.or_eq_true, decide_eq_true_eq] at h
    refine ⟨fun o ho e he hbe => ?_, h.2⟩
    have h1 := h.1
    rw [ho] at h1
    have h2 := (Array.all_eq_true_iff_forall_mem.1 h1) e he
    simpa [hbe] using h2
  intro f
  induction f with
  | zero =>
    intro k listed a w hk hs hdone _ h
    obtain rfl : k = tail.length := by omega
    rw [List.drop_length] at h
    exact wpAny_done (ready_none fun i hi => hdone i (by omega)) h 0
  | succ f ih =>
    intro k listed a w hk hs hdone hun h
    have hkl : k < tail.length := by omega
    have ho : ops[init.length + k]? = some tail[k] := by rw [htl, List.getElem?_eq_getElem hkl]
    rw [List.drop_eq_getElem_cons hkl] at h
    have hmem : init.length + k ∈ Region.ready .any ops listed := by
      rw [mem_ready]
      exact ⟨hun _ (Nat.le_refl _) (by omega), tail[k], ho, fun e he hbe => hdone _ ((hb k hkl).1 _ (List.getElem?_eq_getElem hkl) e he hbe)⟩
    refine ⟨fun hr => (by rw [hr] at hmem; cases hmem), fun i hi => ?_⟩
    obtain ⟨h0, o, hoi, hall⟩ := mem_ready.1 hi
    have hilt := (Array.getElem?_eq_some_iff.1 hoi).1
    have hik : i = init.length + k := by
      rcases Nat.lt_trichotomy i (init.length + k) with hlt | rfl | hgt
      · have := hdone i hlt
        rw [getD_both h0] at this; cases this
      · rfl
      · exfalso
        have ht := (hb (i - init.length) (by omega)).2
        rw [show init.length + (i - init.length) = i by omega] at ht
        rcases ht with ht | ht
        · omega
        · obtain ⟨oi, hoi', e, he, hbe, hon⟩ := Region.waitsFor_spec ht
          have : oi = o := Option.some.inj (hoi'.symm.trans hoi)
          subst this
          have h1 := hall e he hbe
          rw [hon, getD_both (hun (i - 1) (by omega) (by omega))] at h1
          cases h1
    subst hik
    have next : ∀ a' w', wpList P ops Q (tail.drop (k + 1)) a' w' → wpAny P .any ops Q f (listed.setIfInBounds (init.length + k) true) a' w' := fun a' w' h' =>
      ih (k + 1) _ a' w' (by omega) (by simp [hs]) (fun j hj => by
        by_cases hjk : init.length + k = j
        · subst hjk; simp [show init.length + k < listed.size by omega]
        · exact getD_set_true (hdone j (by omega))) (fun j hj hj2 => by rw [getD_set_ne true (by omega)]; exact hun j (by omega) hj2) h'
    refine wpOp_mono next ?_
    unfold wpOp
    simp only [ho]
    simpa only [wpList] using h

theorem wpAny_rely_tail (hsplit : ops.toList = init ++ tail) (hpos : 0 < tail.length) (hn : a0.tmps.size = n) (hB : relyB ops n 0 init D = true) (hsink : Region.sinkB .any ops init.length = true) (htb : tailB ops tail init.length = true) (ht : ∀ a b c : World, T a b → T b c → T a c)
    (hl : init.length ≤ V.length) (hA : relyAll P Q T V a0 w0 init D V) (hE : ∀ w, T w0 w → relyEnd (fun _ a w => wpList P ops Q tail a w) T init V a0 w) :
    ∀ (fuel : Nat) (listed : Array Bool) (a : Act) (w : World), (unl ops listed).length = fuel → (∀ j, init.length ≤ j → j < ops.size → listed.getD j true = false) → RelyInv ops T V a0 w0 listed a w → wpAny P .any ops Q fuel listed a w := by
  obtain ⟨hsz, hpre, htl⟩ := split_at hsplit
  have hat : ∀ i o, init[i]? = some o → ∃ dp g, relyOne ops n i o dp g = true ∧ relyStep P Q T V a0 w0 o dp g (V.getD i SV.any) := fun i o hi => by
    obtain ⟨dp, g, hD, h1⟩ := relyB_at init D 0 i o hB hi
    rw [Nat.zero_add] at h1
    exact ⟨dp, g, h1, relyAll_at _ _ _ i o dp g hA hi hD⟩
  -- once all of the first ones have come up
  have fin : ∀ (fuel : Nat) (listed : Array Bool) (a : Act) (w : World), (unl ops listed).length = fuel → (∀ j, init.length ≤ j → j < ops.size → listed.getD j true = false) → RelyInv ops T V a0 w0 listed a w → (∀ j, j < init.length → listed.getD j false = true) → wpAny P .any ops Q fuel listed a w := fun fuel listed a w hu hun inv hdone => by
    have h1 : wpList P ops Q tail a w := rely_all (Q' := fun a w => wpList P ops Q tail a w) inv
      (fun k o hk => ⟨hpre k o hk, hdone k (List.getElem?_eq_some_iff.1 hk).1⟩) (fun j hj => by
        rcases Nat.lt_or_ge j init.length with h | h
        · exact h
        · rcases Nat.lt_or_ge j ops.size with h' | h'
          · rw [getD_both (hun j h h')] at hj; cases hj
          · have : listed.getD j false = false := by simp [Array.getElem?_eq_none (show listed.size ≤ j by rw [inv.size]; omega)]
            rw [this] at hj; cases hj) hl (hE w inv.now)
    have hf : fuel = tail.length := by
      rw [← hu]
      unfold unl
      have e : (List.range ops.size).filter (fun i => !listed.getD i true) = List.range' init.length tail.length := by
        rw [List.range_eq_range', show ops.size = init.length + tail.length from hsz, ← List.range'_append_1, List.filter_append, List.filter_eq_nil_iff.2, List.filter_eq_self.2]
        · simp
        · intro i hi
          simp only [List.mem_range'_1] at hi
          rw [hun i (by omega) (by omega)]; rfl
        · intro i hi
          simp only [List.mem_range'_1] at hi
          have h2 := hdone i (by omega)
          have h3 : listed.getD i true = true := by
            have hlt : i < listed.size := by rw [inv.size]; omega
            simp [hlt] at h2 ⊢; exact h2
          rw [h3]; simp
      rw [e]; simp
    subst hf
    exact tail_seq hsplit htb tail.length 0 listed a w (by omega) inv.size (by simpa using hdone) (by simpa using hun) (by simpa using h1)
  intro fuel
  induction fuel with
  | zero =>
    intro listed a w hu hun inv
    have : init.length ∈ unl ops listed := by
      unfold unl; rw [List.mem_filter]; exact ⟨List.mem_range.2 (by omega), by rw [hun _ (Nat.le_refl _) (by omega)]; rfl⟩
    rw [List.eq_nil_of_length_eq_zero hu] at this
    cases this
  | succ fuel ih =>
    intro listed a w hu hun inv
    by_cases hdone : ∀ j, j < init.length → listed.getD j false = true
    · exact fin _ listed a w hu hun inv hdone
    · -- none of the last ones may come up yet
      have hlow : ∀ i, i ∈ Region.ready .any ops listed → i < init.length := fun i hi => by
        rcases Nat.lt_or_ge i init.length with h | h
        · exact h
        · exfalso
          obtain ⟨h0, o, ho, hall⟩ := mem_ready.1 hi
          have hilt := (Array.getElem?_eq_some_iff.1 ho).1
          by_cases him : i = init.length
          · subst him
            apply hdone
            have hd : ∀ (d j : Nat), init.length - j = d → j < init.length → listed.getD j false = true := fun d => by
              induction d using Nat.strongRecOn with
              | _ d ihd =>
                intro j hd hj
                have h1 := List.all_eq_true.1 hsink j (List.mem_range.2 hj)
                obtain ⟨t, ht1, ht2⟩ := List.any_eq_true.1 h1
                simp only [Bool.and_eq_true, decide_eq_true_eq] at ht2
                obtain ⟨ot, hot, e, he, hb, hon⟩ := Region.waitsFor_spec ht2.2
                have htle : t ≤ init.length := by have := List.mem_range.1 ht1; omega
                rw [← hon]
                by_cases htm : t = init.length
                · subst htm
                  have : ot = o := Option.some.inj (hot.symm.trans ho)
                  subst this
                  exact hall e he hb
                · exact inv.closed t ot hot (ihd (init.length - t) (by omega) t rfl (by omega)) e he hb
            exact fun j hj => hd _ j rfl hj
          · have h := List.all_eq_true.1 htb (i - init.length) (List.mem_range.2 (by omega))
            simp only [Bool.and_eq_true, Bool.or_eq_true, decide_eq_true_eq] at h
            rw [show init.length + (i - init.length) = i by omega] at h
            rcases h.2 with h | h
            · omega
            · obtain ⟨oi, hoi', e, he, hbe, hon⟩ := Region.waitsFor_spec h
              have : oi = o := Option.some.inj (hoi'.symm.trans ho)
              subst this
              have h1 := hall e he hbe
              rw [hon, getD_both (hun (i - 1) (by omega) (by omega))] at h1
              cases h1
      refine ⟨fun hr => ?_, fun i hi => ?_⟩
      · exfalso
        apply hdone
        intro i
        induction i using Nat.strongRecOn with
        | _ i ih =>
          intro hi
          cases hli : listed.getD i false with
          | true => rfl
          | false =>
            exfalso
            have hmem : i ∈ Region.ready .any ops listed := by
              rw [mem_ready]
              refine ⟨getD_in (by rw [inv.size]; omega) hli, init[i], hpre i _ (List.getElem?_eq_getElem hi), fun e he hb => ?_⟩
              obtain ⟨dp, g, h1, _⟩ := hat i init[i] (List.getElem?_eq_getElem hi)
              simp only [relyOne, Bool.and_eq_true] at h1
              have h2 := (Array.all_eq_true_iff_forall_mem.1 h1.1.1.2) e he
              simp only [hb, Bool.not_true, Bool.false_or, decide_eq_true_eq] at h2
              exact ih e.on h2 (by omega)
            rw [hr] at hmem
            cases hmem
      · have hi' := hlow i hi
        obtain ⟨h0, o, ho, hall⟩ := mem_ready.1 hi
        have hio : init[i]? = some o := by
          have := hpre i init[i] (List.getElem?_eq_getElem hi')
          rw [ho] at this
          rw [List.getElem?_eq_getElem hi', Option.some.inj this]
        obtain ⟨dp, g, h1, hstep⟩ := hat i o hio
        refine wpOp_mono (fun a' w' inv' => ih _ a' w' (by have := unl_set inv.size h0; omega) (fun j hj hj2 => by rw [getD_set_ne true (by omega)]; exact hun j hj hj2) inv') (rely_op hn ht ho h1 hstep h0 hall inv)
/-- **A region that draws its order, the last operations (from place m on) one behind the other.** -/
theorem wp_region_rely_tail {id : Nat} (T : World → World → Prop) (V : List (SV T)) (D : Deps) (n m : Nat) (hm : P.follows .mixedOrders = true) (hn : a0.tmps.size = n) (hlen : (ops.toList.take m).length = m) (hpos : 0 < (ops.toList.drop m).length) (hB : relyB ops n 0 (ops.toList.take m) D = true)
    (hsink : Region.sinkB .any ops m = true) (htb : tailB ops (ops.toList.drop m) m = true) (ht : ∀ a b c : World, T a b → T b c → T a c) (hd : T w0 w0.drew) (hl : m ≤ V.length)
    (hA : relyAll P Q T V a0 w0 (ops.toList.take m) D V) (hE : ∀ w, T w0 w → relyEnd (fun _ a w => wpList P ops Q (ops.toList.drop m) a w) T (ops.toList.take m) V a0 w) : (Code.region id ops true).wp P Q a0 w0 := by
  refine wp_region_any hm ?_
  refine wpAny_rely_tail (List.take_append_drop m ops.toList).symm hpos hn hB (by rw [hlen]; exact hsink) (by rw [hlen]; exact htb) ht (by rw [hlen]; exact hl) hA hE ops.size _ a0 w0.drew unl_start (fun j _ hj => by simp [hj]) (rely_start hd)
end
end Go.Proofs.YtchpmdcacpjojaaDoor
/- A region in the text's order, gone through once: each operation has a condition on its value that later steps keep; beside them a relation on the world that steps on with the operations; the last operations may be left as they stand. No program is named here. -/
namespace Go.Proofs.YtchpmdcacpjojaaDoor
open Go
set_option maxRecDepth 8000
set_option linter.all false

def seqStep (P : Program) (Q : Exit → Act → World → Prop) (T : World → World → Prop) (V : List (SV T)) (J : Nat → World → Prop) (a0 : Act) (w0 : World) (i : Nat) (o : Oper) (dp : List (Tmp × Option Nat)) (g : Option (Tmp × Bool)) (c : SV T) : Prop :=
  ∀ (a : Act) (w : World), T w0 w → relyFacts V a0 a w dp → J i w → ∀ K : Act → World → Prop, (∀ v w', T w w' → J (i + 1) w' → c.pred v w' → K (a.put o.dst v) w') →
    if relyGuard g a then o.wp P a w K Q else K (a.put o.dst undef) w
def seqAll (P : Program) (Q : Exit → Act → World → Prop) (T : World → World → Prop) (V : List (SV T)) (J : Nat → World → Prop) (a0 : Act) (w0 : World) : Nat → List Oper → Deps → List (SV T) → Prop
  | _, [], _, _ => True
  | i, o :: r, (dp, g) :: D, c :: C => seqStep P Q T V J a0 w0 i o dp g c ∧ seqAll P Q T V J a0 w0 (i + 1) r D C
  | _, _, _, _ => False
def seqOne (ops : Array Oper) (n m : Nat) (i : Nat) (o : Oper) (dp : List (Tmp × Option Nat)) (g : Option (Tmp × Bool)) : Bool :=
  (match o.dst with | some d => decide (d < n) && (List.range m).all (fun j => decide (j = i) || relyDst ops j != some d) | none => true) &&
  (dp.all fun x => match x.2 with
    | some j => relyDst ops j == some x.1 && decide (j < i)
    | none => (List.range i).all fun j => relyDst ops j != some x.1) &&
  (match o.guard, g with
    | none, none => true
    | some (k, b), some (d, b') => b == b' && relyDst ops k == some d && decide (d < n)
    | _, _ => false)
def seqB (ops : Array Oper) (n m : Nat) : Nat → List Oper → Deps → Bool
  | _, [], _ => true
  | i, o :: r, (dp, g) :: D => seqOne ops n m i o dp g && seqB ops n m (i + 1) r D
  | _, _, _ => false
section
variable {P : Program} {ops : Array Oper} {Q : Exit → Act → World → Prop} {T : World → World → Prop} {V : List (SV T)} {J : Nat → World → Prop} {a0 : Act} {w0 : World} {n m : Nat} {D : Deps} {init tail : List Oper}
theorem seqB_at : ∀ (l : List Oper) (D : Deps) (i k : Nat) (o : Oper), seqB ops n m i l D = true → l[k]? = some o → ∃ dp g, D[k]? = some (dp, g) ∧ seqOne ops n m (i + k) o dp g = true
  | [], _, _, _, _, _, h => by simp at h
  | x :: r, [], _, _, _, h, _ => by simp [seqB] at h
  | x :: r, (dp, g) :: D, i, 0, o, h, ho => by
    simp only [seqB, Bool.and_eq_true] at h
    simp at ho
    subst ho
    exact ⟨dp, g, rfl, h.1⟩
  | x :: r, (dp, g) :: D, i, k + 1, o, h, ho => by
    simp only [seqB, Bool.and_eq_true] at h
    obtain ⟨dp', g', hD, h'⟩ := seqB_at r D (i + 1) k o h.2 (by simpa using ho)
    exact ⟨dp', g', by simpa using hD, by rw [show i + (k + 1) = i + 1 + k by omega]; exact h'⟩
theorem seqAll_at : ∀ (l : List Oper) (D : Deps) (C : List (SV T)) (i k : Nat) (o : Oper) dp g, seqAll P Q T V J a0 w0 i l D C → l[k]? = some o → D[k]? = some (dp, g) → seqStep P Q T V J a0 w0 (i + k) o dp g (C.getD k SV.any)
  | [], _, _, _, _, _, _, _, _, h, _ => by simp at h
  | x :: r, [], _, _, _, _, _, _, h, _, _ => h.elim
  | x :: r, y :: D, [], _, _, _, _, _, h, _, _ => h.elim
  | x :: r, (dp, g) :: D, c :: C, i, 0, o, dp', g', h, ho, hD => by
    simp at ho hD
    obtain ⟨rfl, rfl⟩ := hD
    subst ho
    exact h.1
  | x :: r, (dp, g) :: D, c :: C, i, k + 1, o, dp', g', h, ho, hD => by
    have := seqAll_at r D C (i + 1) k o dp' g' h.2 (by simpa using ho) (by simpa using hD)
    rw [show i + (k + 1) = i + 1 + k by omega]
    simpa using this
structure SeqInv (ops : Array Oper) (T : World → World → Prop) (V : List (SV T)) (J : Nat → World → Prop) (a0 : Act) (w0 : World) (k : Nat) (a : Act) (w : World) : Prop where
  now : T w0 w
  at_ : J k w
  slots : a.tmps.size = a0.tmps.size
  defers : a.defers = a0.defers
  new : ∀ j d, j < k → relyDst ops j = some d → (V.getD j SV.any).pred (a.tmps.getD d undef) w
  old : ∀ d, (∀ j, j < k → relyDst ops j ≠ some d) → a.tmps.getD d undef = a0.tmps.getD d undef
theorem seq_op (hn : a0.tmps.size = n) (ht : ∀ a b c : World, T a b → T b c → T a c) {i : Nat} {o : Oper} {dp : List (Tmp × Option Nat)} {g : Option (Tmp × Bool)} {a : Act} {w : World}
    (him : i < m) (ho : ops[i]? = some o) (h1 : seqOne ops n m i o dp g = true) (hstep : seqStep P Q T V J a0 w0 i o dp g (V.getD i SV.any)) (inv : SeqInv ops T V J a0 w0 i a w) :
    wpOp P ops Q i (fun a' w' => SeqInv ops T V J a0 w0 (i + 1) a' w') a w := by
  simp only [seqOne, Bool.and_eq_true] at h1
  obtain ⟨⟨hdst, hdp⟩, hg⟩ := h1
  have hfacts : relyFacts V a0 a w dp := by
    clear hstep
    induction dp with
    | nil => trivial
    | cons x r ih2 =>
      simp only [List.all_cons, Bool.and_eq_true] at hdp
      obtain ⟨hx, hr⟩ := hdp
      obtain ⟨d, j⟩ := x
      cases j with
      | some j =>
        simp only [Bool.and_eq_true, beq_iff_eq, decide_eq_true_eq] at hx
        exact ⟨inv.new j d hx.2 hx.1, ih2 hr⟩
      | none =>
        refine ⟨inv.old d fun j hj => ?_, ih2 hr⟩
        simpa using List.all_eq_true.1 hx j (List.mem_range.2 hj)
  have hguard : Region.wanted o (yielded ops a.tmps) = relyGuard g a := by
    unfold Region.wanted
    cases hgo : o.guard with
    | none =>
      rw [hgo] at hg
      cases g with
      | none => rfl
      | some x => cases hg
    | some kb =>
      obtain ⟨k, b⟩ := kb
      rw [hgo] at hg
      cases g with
      | none => cases hg
      | some x =>
        obtain ⟨d, b'⟩ := x
        simp only [Bool.and_eq_true, beq_iff_eq, decide_eq_true_eq] at hg
        obtain ⟨⟨rfl, hd⟩, hlt⟩ := hg
        have hlt' : d < a.tmps.size := by rw [inv.slots, hn]; exact hlt
        have hd' : (ops[k]?).bind (·.dst) = some d := hd
        simp only [yielded, hd', Option.bind_some, relyGuard, Array.getD_eq_getD_getElem?, Array.getElem?_eq_getElem hlt', Option.getD_some]
        cases a.tmps[d] <;> simp
        all_goals (rename_i x; cases x <;> cases b <;> rfl)
  have next : ∀ v w', T w w' → J (i + 1) w' → (V.getD i SV.any).pred v w' → SeqInv ops T V J a0 w0 (i + 1) (a.put o.dst v) w' := fun v w' hT hJ hv => by
    refine ⟨ht _ _ _ inv.now hT, hJ, by cases o.dst <;> simp [Act.put, inv.slots], by cases o.dst <;> simp [Act.put, inv.defers], fun j d hji hj => ?_, fun d hno => ?_⟩
    · by_cases hij : i = j
      · subst hij
        have hd : o.dst = some d := by simpa [relyDst, ho] using hj
        rw [hd] at hdst
        simp only [Bool.and_eq_true, decide_eq_true_eq] at hdst
        have hlt : d < a.tmps.size := by rw [inv.slots, hn]; exact hdst.1
        rw [hd]
        simpa [Act.put, hlt] using hv
      · have h3 := (V.getD j SV.any).stable _ _ _ (inv.new j d (by omega) hj) hT
        cases hod : o.dst with
        | none => exact h3
        | some d0 =>
          rw [hod] at hdst
          simp only [Bool.and_eq_true, decide_eq_true_eq] at hdst
          have h4 := List.all_eq_true.1 hdst.2 j (List.mem_range.2 (by omega))
          simp only [Bool.or_eq_true, decide_eq_true_eq, bne_iff_ne, ne_eq] at h4
          have hne : d0 ≠ d := fun e => by
            subst e
            rcases h4 with h4 | h4
            · exact hij h4.symm
            · exact h4 hj
          simpa [Act.put, Array.getElem?_setIfInBounds_ne hne] using h3
    · have hni : o.dst ≠ some d := fun hd => hno i (by omega) (by simp [relyDst, ho, hd])
      have hold := inv.old d fun j hj => hno j (by omega)
      cases hod : o.dst with
      | none => exact hold
      | some d0 =>
        have hne : d0 ≠ d := fun e => hni (by rw [hod, e])
        simpa [Act.put, Array.getElem?_setIfInBounds_ne hne] using hold
  have hs := hstep a w inv.now hfacts inv.at_ _ next
  unfold wpOp
  simp only [ho, hguard]
  split
  · rename_i hw; rw [if_pos hw] at hs; exact .inl hs
  · rename_i hw; rw [if_neg hw] at hs; exact hs
theorem wpOps_tail : ∀ (t : List Oper) (k : Nat) (a : Act) (w : World), (∀ i : Nat, ops[k + i]? = t[i]?) → wpList P ops Q t a w → wpOps P ops Q (List.range' k t.length) a w
  | [], k, a, w, _, h => by simpa [wpOps, wpList] using h
  | o :: t, k, a, w, hk, h => by
    have hi : ops[k]? = some o := by simpa using hk 0
    rw [List.length_cons, List.range'_succ, wpOps_cons]
    refine wpOp_mono (fun a' w' h' => wpOps_tail t (k + 1) a' w' (fun i => by have := hk (i + 1); rw [show k + 1 + i = k + (i + 1) by omega]; simpa using this) h') ?_
    unfold wpOp
    simp only [hi]
    simpa only [wpList] using h
theorem wpOps_seq (hsplit : ops.toList = init ++ tail) (hn : a0.tmps.size = n) (hB : seqB ops n init.length 0 init D = true) (ht : ∀ a b c : World, T a b → T b c → T a c)
    (hl : init.length ≤ V.length) (hA : seqAll P Q T V J a0 w0 0 init D V) (hE : ∀ w, T w0 w → J init.length w → relyEnd (fun _ a w => wpList P ops Q tail a w) T init V a0 w) :
    ∀ (f k : Nat) (a : Act) (w : World), k + f = init.length → SeqInv ops T V J a0 w0 k a w → wpOps P ops Q (List.range' k (f + tail.length)) a w := by
  obtain ⟨hsz, hpre, htl⟩ := split_at hsplit
  intro f
  induction f with
  | zero =>
    intro k a w hk inv
    obtain rfl : k = init.length := by omega
    rw [Nat.zero_add]
    refine wpOps_tail tail init.length a w htl ?_
    refine relyEnd_of (Q := fun _ a w => wpList P ops Q tail a w) init V a0 inv.slots.symm inv.defers.symm hl (fun d hnd => ?_) (fun k o d hk hd => ?_) (hE w inv.now inv.at_)
    · refine (inv.old d fun j hj hjd => ?_).symm
      have hj2 := hpre j init[j] (List.getElem?_eq_getElem hj)
      simp [relyDst, hj2] at hjd
      exact hnd init[j] (List.getElem_mem hj) hjd
    · exact inv.new k d (List.getElem?_eq_some_iff.1 hk).1 (by simp [relyDst, hpre k o hk, hd])
  | succ f ih =>
    intro k a w hk inv
    rw [show f + 1 + tail.length = (f + tail.length) + 1 by omega, List.range'_succ, wpOps_cons]
    have hklt : k < init.length := by omega
    have hio : init[k]? = some init[k] := List.getElem?_eq_getElem hklt
    obtain ⟨dp, g, hD, h1⟩ := seqB_at init D 0 k _ hB hio
    have hstep := seqAll_at _ _ _ 0 k _ dp g hA hio hD
    rw [Nat.zero_add] at h1 hstep
    exact wpOp_mono (fun a' w' inv' => ih (k + 1) a' w' (by omega) inv') (seq_op hn ht hklt (hpre k _ hio) h1 hstep inv)
/-- **A region in the text's order; the operations from place m on are left as they stand.** -/
theorem wp_region_steps {id : Nat} (T : World → World → Prop) (J : Nat → World → Prop) (V : List (SV T)) (D : Deps) (n m : Nat) (hn : a0.tmps.size = n) (hlen : (ops.toList.take m).length = m) (hB : seqB ops n m 0 (ops.toList.take m) D = true)
    (ht : ∀ a b c : World, T a b → T b c → T a c) (hd : T w0 w0) (hJ : J 0 w0) (hl : m ≤ V.length)
    (hA : seqAll P Q T V J a0 w0 0 (ops.toList.take m) D V) (hE : ∀ w, T w0 w → J m w → relyEnd (fun _ a w => wpList P ops Q (ops.toList.drop m) a w) T (ops.toList.take m) V a0 w) : (Code.region id ops false).wp P Q a0 w0 := by
  refine wp_region ?_
  have hs := split_at (List.take_append_drop m ops.toList).symm
  rw [List.range_eq_range', hs.1]
  exact wpOps_seq (List.take_append_drop m ops.toList).symm hn (by rw [hlen]; exact hB) ht (by rw [hlen]; exact hl) hA (by rw [hlen]; exact hE) _ 0 a0 w0 (by omega) ⟨hd, hJ, rfl, rfl, fun j d hj => absurd hj (by omega), fun _ _ => rfl⟩
/-- Without a relation beside. -/
theorem seqAll_of : ∀ (i : Nat) (l : List Oper) (D : Deps) (C : List (SV T)), relyAll P Q T V a0 w0 l D C → seqAll P Q T V (fun _ _ => True) a0 w0 i l D C
  | _, [], _, _, _ => trivial
  | i, _ :: r, (_, _) :: D, _ :: C, h => ⟨fun a w hT hF _ K hK => h.1 a w hT hF K fun v w' h1 h2 => hK v w' h1 trivial h2, seqAll_of (i + 1) r D C h.2⟩
  | _, _ :: _, [], _, h => h.elim
  | _, _ :: _, _ :: _, [], h => h.elim
theorem wp_region_steps0 {id : Nat} (T : World → World → Prop) (V : List (SV T)) (D : Deps) (n m : Nat) (hn : a0.tmps.size = n) (hlen : (ops.toList.take m).length = m) (hB : seqB ops n m 0 (ops.toList.take m) D = true)
    (ht : ∀ a b c : World, T a b → T b c → T a c) (hd : T w0 w0) (hl : m ≤ V.length)
    (hA : relyAll P Q T V a0 w0 (ops.toList.take m) D V) (hE : ∀ w, T w0 w → relyEnd (fun _ a w => wpList P ops Q (ops.toList.drop m) a w) T (ops.toList.take m) V a0 w) : (Code.region id ops false).wp P Q a0 w0 :=
  wp_region_steps T (fun _ _ => True) V D n m hn hlen hB ht hd trivial hl (seqAll_of 0 _ _ _ hA) fun w hT _ => hE w hT
theorem wpList_end {a : Act} {w : World} {l : List Oper} (hl : l = []) (h : Q .normal a w) : wpList P ops Q l a w := by subst hl; exact h
end
end Go.Proofs.YtchpmdcacpjojaaDoor
/- A step that writes one block; stores into a row, a lemma each. No program is named here. -/
namespace Go.Proofs.YtchpmdcacpjojaaDoor
open Go Go.RowKit
set_option maxRecDepth 8000
set_option linter.all false

/-- A step that writes block R, and new memory, alone. -/
structure RT (R : Nat) (w w' : World) : Prop where
  below : Below R w w'
  keep : KeepBut [R] w w'
theorem RT.refl (R : Nat) (w : World) : RT R w w := ⟨Below.refl _ _, KeepBut.refl _ _⟩
theorem RT.trans {R : Nat} (a b c : World) (h : RT R a b) (k : RT R b c) : RT R a c := ⟨h.below.trans k.below, h.keep.trans k.keep⟩
theorem RT.new {R : Nat} {w w' : World} (hR : R < w.heap.size) (h : NewT w w') : RT R w w' := ⟨h.out.mono (by omega), KeepBut.below h⟩
theorem RT.drew (R : Nat) (w : World) : RT R w w.drew := ⟨(Below.refl _ _).drew, KeepBut.drew _⟩
theorem RT.setCell {R : Nat} (w : World) (o : Nat) (v : Value) : RT R w (w.setCell ⟨R, o, none⟩ v) := ⟨(Below.refl R w).setCell (p := ⟨R, o, none⟩) (Nat.le_refl R) v, KeepBut.setCell (by simp) v⟩
theorem RT.rd {R : Nat} {w w' : World} (h : RT R w w') {v : Value} {l : List UInt8} (hr : RdV w [R] v l) : RdV w' [R] v l := hr.keep h.keep
theorem RT.row {R : Nat} {w w' : World} (h : RT R w w') {b n : Nat} {t : TypeId} {f : Nat → Value} (hb : b ≠ R) (hr : w.rowIs b t n f) : w'.rowIs b t n f := h.keep.row (by simpa using hb) hr
theorem RT.size {R : Nat} {w w' : World} (h : RT R w w') : w.heap.size ≤ w'.heap.size := h.below.size
/-- A block that is new is written. -/
theorem NewT.rt {w w1 w2 : World} {b : Nat} (h : NewT w w1) (hR : RT b w1 w2) (hb : w.heap.size ≤ b) : NewT w w2 := NewT.of (h.out.trans (hR.below.mono hb))
section
variable {P : Program} {ops : Array Oper} {rest : List Oper} {a : Act} {w : World} {Q : Exit → Act → World → Prop}
theorem wpList_new {o1 o2 : Oper} {t : TypeId} {n d0 : Nat} {y : Operand} {f f0 : Nat → Value} (hg1 : o1.guard = none) (hg2 : o2.guard = none) (h1 : o1.op = .alloc t) (hd : o1.dst = some d0) (h2 : o2.op = .store t (.tmp d0) y) (hd2 : o2.dst = none) (hlt : d0 < a.tmps.size)
    (hal : ∀ w : World, (Instr.alloc t true (.tuple #[])).run P w = .ok (.pointer (some ⟨w.heap.size, 0, none⟩)) (w.alloc (.cells (rowA n f0) t))) (hi : (P.info? t).map (·.size) = some n) (hone : ∀ i, (f i).oneCell' = true)
    (hy : (a.put (some d0) (.pointer (some ⟨w.heap.size, 0, none⟩))).eval y = .agg (rowA n f)) (h : ∀ w', NewT w w' → w'.rowIs w.heap.size t n f → wpList P ops Q rest (a.put (some d0) (.pointer (some ⟨w.heap.size, 0, none⟩))) w') : wpList P ops Q (o1 :: o2 :: rest) a w := by
  refine wpList_plain hg1 fun K hK => ?_
  obtain ⟨dst, op, type, pos, after, guard⟩ := o1
  simp only at h1 hd
  subst h1 hd
  refine opr_val (s := Instr.alloc t true (.tuple #[])) rfl (hal w) (hK _ _ ?_)
  have hr := rowIs_box w t n f0
  refine wpList_store_mid hg2 t (.tmp d0) y h2 w.heap.size 0 (rowA n f) (by rw [eval_tmp]; simp [Act.put, hlt]) hy (by rw [rowA_size]; exact there_row hr) (by rw [rowA_size]; exact hi) (rowA_one _ _ hone) ?_
  rw [hd2]
  exact h _ (below_setCells _ (Nat.le_refl _) _ _ _ (NewT.alloc _ _).out) (rowIs_setAll hr f)
/-- A part of a row that is the call's own is written. -/
theorem wpList_put {o : Oper} {t t' : TypeId} {x y : Operand} {g o0 n m : Nat} {f f0 F : Nat → Value} (hg : o.guard = none) (ho : o.op = .store t x y) (hd : o.dst = none) (hx : a.eval x = .pointer (some ⟨g, o0, none⟩)) (hy : a.eval y = .agg (rowA m f)) (hr : w.rowIs g t' n f0) (hm : o0 + m ≤ n) (hi : (P.info? t).map (·.size) = some m) (hone : ∀ i, (f i).oneCell' = true)
    (hF : ∀ i, i < n → F i = if o0 ≤ i ∧ i < o0 + m then f (i - o0) else f0 i) (h : ∀ w', (∀ B, B ≤ g → Below B w w') → w'.rowIs g t' n F → wpList P ops Q rest a w') : wpList P ops Q (o :: rest) a w := by
  refine wpList_store_mid hg t x y ho g o0 (rowA m f) hx hy (by rw [rowA_size]; exact fun j hj => ⟨by simp [hr.cell (i := o0 + j) (by omega)], by simpa using hr.frozen (o0 + j)⟩) (by rw [rowA_size]; exact hi) (rowA_one _ _ hone) ?_
  rw [hd]
  refine h _ (fun B hB => below_setCells g hB _ _ _ (Below.refl _ _)) ((rowIs_setCells_at hr (rowA m f).toList o0).congr fun i hi => ?_)
  rw [hF i hi, rowA_toList]
  simp only [List.length_map, List.length_range]
  by_cases h : o0 ≤ i ∧ i < o0 + m
  · rw [if_pos h, if_pos h]
    simp [show i - o0 < m by omega]
  · rw [if_neg h, if_neg h]
theorem wpList_put1 {o : Oper} {t t' : TypeId} {x y : Operand} {g o0 n : Nat} {v : Value} {f0 F : Nat → Value} (hg : o.guard = none) (ho : o.op = .store t x y) (hd : o.dst = none) (hx : a.eval x = .pointer (some ⟨g, o0, none⟩)) (hy : a.eval y = v) (hr : w.rowIs g t' n f0) (hm : o0 < n) (hi : (P.info? t).map (·.size) = some 1) (hone : v.oneCell' = true)
    (hF : ∀ i, i < n → F i = if i = o0 then v else f0 i) (h : ∀ w', (∀ B, B ≤ g → Below B w w') → w'.rowIs g t' n F → wpList P ops Q rest a w') : wpList P ops Q (o :: rest) a w := by
  refine wpList_plain hg fun K hK => ?_
  obtain ⟨dst, op, type, pos, after, guard⟩ := o
  simp only at ho hd
  subst ho hd
  have hsz : (sizeOf t).run P w = .ok 1 w := by
    cases hq : P.info? t with
    | none => simp [hq] at hi
    | some i => simp [hq] at hi; simp [sizeOf, typeInfo, hq, hi]
  have hc := hr.cell hm
  have hf := hr.frozen o0
  have hcs : v.cells = #[v] := by cases v <;> first | rfl | simp [Value.oneCell'] at hone
  refine opr_unit (s := Instr.storeAt t (a.eval x) (a.eval y)) (w' := w.setCell ⟨g, o0, none⟩ v) rfl ?_ (hK _ _ ?_)
  · rw [hx, hy]
    simp [Instr.storeAt, Instr.sureAddr, storeVar, hsz, hcs, storeCells, run_store _ _ _ _ _ hone, hc, hf, Addr.add_zero']
  · exact h _ (fun B hB => (Below.refl B w).setCell (p := ⟨g, o0, none⟩) hB v) ((hr.set o0 v).congr fun i hi => by rw [hF i hi])
/-- A record or a row that a call hands back. -/
theorem results_agg {fn : Func} {p : Tmp} {ty t : TypeId} {d : TypeDesc} {n b : Nat} {f : Nat → Value} (hf : fn.results = #[.cell p ty]) (tmps : Array Value) (hp : tmps.getD p undef = .pointer (some ⟨b, 0, none⟩))
    (h : w.rowIs b t n f) (hu : P.underlying ty = some d) (hd : d.isRow = true) (hi : (P.info? ty).map (·.size) = some n) : (results fn tmps).run P w = .ok (.agg (rowA n f)) w := by
  have := run_loadVar_mid (P := P) w b 0 ty (rowA n f).toList d (rangeAt_row h) hu hd (by rw [hi, rowA_toList]; simp)
  have hp' : tmps[p]?.getD undef = .pointer (some ⟨b, 0, none⟩) := by simpa using hp
  simp [results, hf, hp', asAddr, this]
end
section
variable {P : Program} {a : Act} {w : World} {o : Oper} {K : Act → World → Prop} {Q : Exit → Act → World → Prop}
theorem opr_put1 {t t' : TypeId} {x y : Operand} {g o0 n : Nat} {v : Value} {f0 F : Nat → Value} (ho : o.op = .store t x y) (hx : a.eval x = .pointer (some ⟨g, o0, none⟩)) (hy : a.eval y = v) (hr : w.rowIs g t' n f0) (hm : o0 < n) (hi : (P.info? t).map (·.size) = some 1) (hone : v.oneCell' = true)
    (hF : ∀ i, i < n → F i = if i = o0 then v else f0 i) (h : ∀ w', RT g w w' → w'.rowIs g t' n F → K (a.put o.dst undef) w') : o.wp P a w K Q := by
  obtain ⟨dst, op, type, pos, after, guard⟩ := o
  simp only at ho
  subst ho
  have hsz : (sizeOf t).run P w = .ok 1 w := by
    cases hq : P.info? t with
    | none => simp [hq] at hi
    | some i => simp [hq] at hi; simp [sizeOf, typeInfo, hq, hi]
  have hc := hr.cell hm
  have hf := hr.frozen o0
  have hcs : v.cells = #[v] := by cases v <;> first | rfl | simp [Value.oneCell'] at hone
  refine opr_unit (s := Instr.storeAt t (a.eval x) (a.eval y)) (w' := w.setCell ⟨g, o0, none⟩ v) rfl ?_ (h _ (RT.setCell w o0 v) ((hr.set o0 v).congr fun i hi => by rw [hF i hi]))
  rw [hx, hy]
  simp [Instr.storeAt, Instr.sureAddr, storeVar, hsz, hcs, storeCells, run_store _ _ _ _ _ hone, hc, hf, Addr.add_zero']
theorem RT.setCells {R : Nat} (vs : List Value) (o : Nat) (w : World) : RT R w (w.setCells R o vs) := by
  induction vs generalizing o w with
  | nil => exact RT.refl _ _
  | cons v r ih => rw [World.setCells]; exact RT.trans _ _ _ (RT.setCell w o v) (ih (o + 1) _)
theorem opr_putm {t t' : TypeId} {x y : Operand} {g o0 n m : Nat} {f f0 F : Nat → Value} (ho : o.op = .store t x y) (hx : a.eval x = .pointer (some ⟨g, o0, none⟩)) (hy : a.eval y = .agg (rowA m f)) (hr : w.rowIs g t' n f0) (hm : o0 + m ≤ n) (hi : (P.info? t).map (·.size) = some m) (hone : ∀ i, (f i).oneCell' = true)
    (hF : ∀ i, i < n → F i = if o0 ≤ i ∧ i < o0 + m then f (i - o0) else f0 i) (h : ∀ w', RT g w w' → w'.rowIs g t' n F → K (a.put o.dst undef) w') : o.wp P a w K Q := by
  refine wp_store_mid t x y ho g o0 (rowA m f) hx hy (by rw [rowA_size]; exact fun j hj => ⟨by simp [hr.cell (i := o0 + j) (by omega)], by simpa using hr.frozen (o0 + j)⟩) (by rw [rowA_size]; exact hi) (rowA_one _ _ hone) ?_
  refine h _ (RT.setCells _ _ _) ((rowIs_setCells_at hr (rowA m f).toList o0).congr fun i hi => ?_)
  rw [hF i hi, rowA_toList]
  simp only [List.length_map, List.length_range]
  by_cases h : o0 ≤ i ∧ i < o0 + m
  · rw [if_pos h, if_pos h]
    simp [show i - o0 < m by omega]
  · rw [if_neg h, if_neg h]
end
end Go.Proofs.YtchpmdcacpjojaaDoor
/- What the guards of a region make conditional, and single operations, a lemma each: fields, loads, numbers compared. -/
namespace Go.Proofs.YtchpmdcacpjojaaDoor
open Go Go.RowKit
set_option maxRecDepth 8000
set_option linter.all false

theorem evs0 {a : Act} : (#[] : Array Operand).map a.eval = #[] := by simp
theorem evs1 {a : Act} {x : Operand} {v : Value} (h : a.eval x = v) : #[x].map a.eval = #[v] := by simp only [List.map_toArray, List.map_cons, List.map_nil, h]
theorem evs2 {a : Act} {x y : Operand} {v u : Value} (h : a.eval x = v) (k : a.eval y = u) : #[x, y].map a.eval = #[v, u] := by simp only [List.map_toArray, List.map_cons, List.map_nil, h, k]
theorem evs3 {a : Act} {x y z : Operand} {v u t : Value} (h : a.eval x = v) (k : a.eval y = u) (l : a.eval z = t) : #[x, y, z].map a.eval = #[v, u, t] := by simp only [List.map_toArray, List.map_cons, List.map_nil, h, k, l]
theorem evs4 {a : Act} {x y z p : Operand} {v u t s : Value} (h : a.eval x = v) (k : a.eval y = u) (l : a.eval z = t) (m : a.eval p = s) : #[x, y, z, p].map a.eval = #[v, u, t, s] := by simp only [List.map_toArray, List.map_cons, List.map_nil, h, k, l, m]
theorem evs5 {a : Act} {x y z p q : Operand} {v u t s r : Value} (h : a.eval x = v) (k : a.eval y = u) (l : a.eval z = t) (m : a.eval p = s) (n : a.eval q = r) : #[x, y, z, p, q].map a.eval = #[v, u, t, s, r] := by simp only [List.map_toArray, List.map_cons, List.map_nil, h, k, l, m, n]
section
variable {P : Program} {a : Act} {w : World} {o : Oper} {K : Act → World → Prop} {Q : Exit → Act → World → Prop}
/-- A condition that stands where b is so. -/
def svIf {T : World → World → Prop} (b : Bool) (c : SV T) : SV T := ⟨fun v w => b = true → c.pred v w, fun v w w' h hT hb => c.stable v w w' (h hb) hT⟩
/-- A guard's own value, where it may be left out. -/
def gV (b c : Bool) : Value := bif b then .bool c else undef
theorem rely_on {g : Option (Tmp × Bool)} {E : Bool} (hg : relyGuard g a = E) (h1 : E = true → o.wp P a w K Q) (h0 : E = false → K (a.put o.dst undef) w) : if relyGuard g a then o.wp P a w K Q else K (a.put o.dst undef) w := by
  rw [hg]; cases E
  · exact h0 rfl
  · exact h1 rfl
/-- What is done under a guard that isn't known. -/
theorem rely_if {T : World → World → Prop} {g : Option (Tmp × Bool)} {E : Bool} {c : SV T} (hg : relyGuard g a = E) (hr : T w w) (hK : ∀ v w', T w w' → (svIf E c).pred v w' → K (a.put o.dst v) w') (h : E = true → (∀ v w', T w w' → c.pred v w' → K (a.put o.dst v) w') → o.wp P a w K Q) : if relyGuard g a then o.wp P a w K Q else K (a.put o.dst undef) w :=
  rely_on hg (fun hE => h hE fun v w' h1 h2 => hK v w' h1 fun _ => h2) fun hE => hK _ _ hr fun h1 => by rw [hE] at h1; cases h1
theorem rely_ifg {T : World → World → Prop} {g : Option (Tmp × Bool)} {E b : Bool} (hg : relyGuard g a = E) (hr : T w w) (hK : ∀ v w', T w w' → (SV.eq (T := T) (gV E b)).pred v w' → K (a.put o.dst v) w') (h : E = true → (∀ v w', T w w' → v = .bool b → K (a.put o.dst v) w') → o.wp P a w K Q) : if relyGuard g a then o.wp P a w K Q else K (a.put o.dst undef) w :=
  rely_on hg (fun hE => h hE fun v w' h1 h2 => hK v w' h1 (by rw [h2, hE]; rfl)) fun hE => hK _ _ hr (by rw [hE]; rfl)
theorem pn_and1 {b e q : Bool} {v : Value} (hq : (b && e) = q) (h : v = .bool e) (hb : b = true) : v = .bool q := by rw [h, ← hq, hb]; rfl
theorem pn_and0 {b e q : Bool} (hq : (b && e) = q) (hb : b = false) : Value.bool false = .bool q := by rw [← hq, hb]; rfl
theorem pn_or1 {b e q : Bool} (hq : (b || e) = q) (hb : b = true) : Value.bool true = .bool q := by rw [← hq, hb]; rfl
theorem pn_or0 {b e q : Bool} {v : Value} (hq : (b || e) = q) (h : v = .bool e) (hb : b = false) : v = .bool q := by rw [h, ← hq, hb]; rfl
theorem rely_gt {d : Tmp} {b : Bool} (h : a.tmps.getD d undef = .bool b) : relyGuard (some (d, true)) a = b := by simp only [relyGuard, h]; cases b <;> rfl
theorem rely_gf {d : Tmp} {b : Bool} (h : a.tmps.getD d undef = .bool b) : relyGuard (some (d, false)) a = !b := by simp only [relyGuard, h]; cases b <;> rfl
theorem rely_ggt {d : Tmp} {p b : Bool} (h : a.tmps.getD d undef = gV p b) : relyGuard (some (d, true)) a = (p && b) := by simp only [relyGuard, h, gV]; cases p <;> cases b <;> rfl
theorem rely_ggf {d : Tmp} {p b : Bool} (h : a.tmps.getD d undef = gV p b) : relyGuard (some (d, false)) a = (p && !b) := by simp only [relyGuard, h, gV]; cases p <;> cases b <;> rfl
theorem gV_on {p b : Bool} (h : p = true) : gV p b = .bool b := by rw [h]; rfl
theorem gV_off {p b : Bool} (h : p = false) : undef = gV p b := by rw [h]; rfl
theorem svIf_off {T : World → World → Prop} {b : Bool} {c : SV T} {v : Value} {w : World} (h : b = false) : (svIf b c).pred v w := fun h1 => by rw [h] at h1; cases h1
theorem bleft {a b : Bool} (h : (a && b) = true) : a = true := by cases a <;> simp_all
theorem opr_pick_b {c x y : Operand} {b : Bool} (ho : o.op = .pick c x y) (hc : a.eval c = .bool b) (h1 : b = true → K (a.put o.dst (a.eval x)) w) (h0 : b = false → K (a.put o.dst (a.eval y)) w) : o.wp P a w K Q := by
  cases b
  · exact opr_pick_false ho hc (h0 rfl)
  · exact opr_pick_true ho hc (h1 rfl)
theorem opr_pick_or {c y : Operand} {b e : Bool} (ho : o.op = .pick c (.const (.bool true)) y) (hc : a.eval c = .bool b) (hy : b = false → a.eval y = .bool e) (h : K (a.put o.dst (.bool (b || e))) w) : o.wp P a w K Q :=
  opr_pick_b ho hc (fun hb => by subst hb; exact h) (fun hb => by subst hb; rw [hy rfl]; exact h)
theorem opr_pick_and {c x : Operand} {b e : Bool} (ho : o.op = .pick c x (.const (.bool false))) (hc : a.eval c = .bool b) (hx : b = true → a.eval x = .bool e) (h : K (a.put o.dst (.bool (b && e))) w) : o.wp P a w K Q :=
  opr_pick_b ho hc (fun hb => by subst hb; rw [hx rfl]; exact h) (fun hb => by subst hb; exact h)
theorem pk_and1 {b e : Bool} {v : Value} (h : v = .bool e) (hb : b = true) : v = .bool (b && e) := by rw [h, hb]; rfl
theorem pk_and0 {b e : Bool} (hb : b = false) : Value.bool false = .bool (b && e) := by rw [hb]; rfl
theorem pk_or1 {b e : Bool} (hb : b = true) : Value.bool true = .bool (b || e) := by rw [hb]; rfl
theorem pk_or0 {b e : Bool} {v : Value} (h : v = .bool e) (hb : b = false) : v = .bool (b || e) := by rw [h, hb]; rfl
theorem bnot {b : Bool} (h : b = false) : (!b) = true := by rw [h]; rfl
theorem band {a b : Bool} (h : a = true) (k : b = true) : (a && b) = true := by rw [h, k]; rfl
theorem opr_not {t : TypeId} {x : Operand} {b : Bool} (ho : o.op = .unOp .not t x) (hx : a.eval x = .bool b) (h : K (a.put o.dst (.bool !b)) w) : o.wp P a w K Q := by
  obtain ⟨dst, op, type, pos, after, guard⟩ := o
  simp only at ho
  subst ho
  refine opr_val (s := Op.unary .not (a.eval x)) rfl ?_ h
  rw [hx]; simp [go_sem]
/-- A field's place. -/
theorem opr_fld {t : TypeId} {x : Operand} {k g o0 off m : Nat} {fs : Array Field} {f : Field} (hu : P.underlying t = some (.struct fs)) (hk : fs[k]? = some f) (hs : (P.info? f.type).map (·.size) = some (m + 1)) (ho : o.op = .fieldAddr t x k) (hx : a.eval x = .pointer (some ⟨g, o0, none⟩)) (hoff : o0 + f.offset = off) (h : K (a.put o.dst (.pointer (some ⟨g, off, none⟩))) w) : o.wp P a w K Q := by
  subst hoff
  obtain ⟨dst, op, type, pos, after, guard⟩ := o
  simp only at ho
  subst ho
  refine opr_val (s := Instr.fieldAt t (a.eval x) k) rfl ?_ h
  have hsz : (sizeOf f.type).run P w = .ok (m + 1) w := by
    cases hq : P.info? f.type with
    | none => simp [hq] at hs
    | some i => simp [hq] at hs; simp [sizeOf, typeInfo, hq, hs]
  rw [hx]
  simp [Instr.fieldAt, run_underlying hu, hk, Instr.sureAddr, fieldPlace, hsz, Addr.add_mid]
/-- A cell is loaded. -/
theorem opr_ld1 {t : TypeId} {x : Operand} {g o0 : Nat} {d : TypeDesc} {v : Value} (hu : P.underlying t = some d) (hd : d.isRow = false) (ho : o.op = .load t x) (hx : a.eval x = .pointer (some ⟨g, o0, none⟩)) (hc : w.cell? ⟨g, o0, none⟩ = some v) (h : K (a.put o.dst v) w) : o.wp P a w K Q := by
  obtain ⟨dst, op, type, pos, after, guard⟩ := o
  simp only at ho
  subst ho
  refine opr_val (s := Instr.loadAt t (a.eval x)) rfl ?_ h
  have hagg : (isAgg t).run P w = .ok false w := by
    unfold isAgg
    rw [Sem.run_bind, run_underlying hu w]
    cases d <;> simp_all
  rw [hx]
  simp [Instr.loadAt, Instr.sureAddr, loadVar, hagg, hc]
/-- A part of a row is loaded. -/
theorem opr_ldm {t t' : TypeId} {x : Operand} {g o0 n m : Nat} {d : TypeDesc} {f : Nat → Value} (hu : P.underlying t = some d) (hd : d.isRow = true) (hi : (P.info? t).map (·.size) = some m) (ho : o.op = .load t x) (hx : a.eval x = .pointer (some ⟨g, o0, none⟩)) (hr : w.rowIs g t' n f) (hm : o0 + m ≤ n) (h : K (a.put o.dst (.agg (rowA m fun j => f (o0 + j)))) w) : o.wp P a w K Q := by
  obtain ⟨dst, op, type, pos, after, guard⟩ := o
  simp only at ho
  subst ho
  refine opr_val (s := Instr.loadAt t (a.eval x)) rfl ?_ h
  rw [hx]
  have := run_loadAt_mid (P := P) w g o0 t _ d (rangeAt_part hr o0 m hm) hu hd (by rw [rowA_toList]; simpa using hi)
  simpa using this
end
section
variable {a : Act} {w : World} {o : Oper} {K : Act → World → Prop} {Q : Exit → Act → World → Prop} {x : Operand} {g : Nat}
theorem info_int : (Tryd.prog.info? 3).map (·.size) = some (0 + 1) := by kernel_rfl
theorem info_bool : (Tryd.prog.info? 4).map (·.size) = some (0 + 1) := by kernel_rfl
theorem info_hash1 : (Tryd.prog.info? 32).map (·.size) = some (31 + 1) := by kernel_rfl
theorem info_sb1 : (Tryd.prog.info? 49).map (·.size) = some (0 + 1) := by kernel_rfl
variable {F : Nat → Value} {t' : TypeId} {n : Nat} {o0 : Nat} {v : Value}
theorem opr_ldI (hr : w.rowIs g t' n F) (hn : o0 < n) (hv : F o0 = v) (ho : o.op = .load 3 x) (hx : a.eval x = .pointer (some ⟨g, o0, none⟩)) (h : K (a.put o.dst v) w) : o.wp Tryd.prog a w K Q :=
  opr_ld1 Tryd.underlying3 rfl ho hx (by rw [hr.cell hn, hv]) h
theorem opr_ldQ (hr : w.rowIs g t' n F) (hn : o0 < n) (hv : F o0 = v) (ho : o.op = .load 4 x) (hx : a.eval x = .pointer (some ⟨g, o0, none⟩)) (h : K (a.put o.dst v) w) : o.wp Tryd.prog a w K Q :=
  opr_ld1 Tryd.underlying4 rfl ho hx (by rw [hr.cell hn, hv]) h
theorem opr_ldB (hr : w.rowIs g t' n F) (hn : o0 < n) (hv : F o0 = v) (ho : o.op = .load 49 x) (hx : a.eval x = .pointer (some ⟨g, o0, none⟩)) (h : K (a.put o.dst v) w) : o.wp Tryd.prog a w K Q :=
  opr_ld1 Tryd.underlying49 rfl ho hx (by rw [hr.cell hn, hv]) h
theorem opr_ldH {d : Nat → UInt8} (hr : w.rowIs g t' n F) (hn : o0 + 32 ≤ n) (hv : ∀ j, j < 32 → F (o0 + j) = bF d j) (ho : o.op = .load 32 x) (hx : a.eval x = .pointer (some ⟨g, o0, none⟩)) (h : K (a.put o.dst (.agg (rowA 32 (bF d)))) w) : o.wp Tryd.prog a w K Q :=
  opr_ldm Tryd.underlying32 rfl info31 ho hx hr hn (by rw [rowA_congr hv]; exact h)
/-- Numbers are compared. -/
theorem opr_cmp {op : BinOp} {t t2 : TypeId} {x y : Operand} {m n : Int} {b : Bool} (hop : op = .eql ∧ (m == n) = b ∨ op = .neq ∧ (m != n) = b ∨ op = .leq ∧ decide (m ≤ n) = b ∨ op = .lss ∧ decide (m < n) = b ∨ op = .gtr ∧ decide (n < m) = b ∨ op = .geq ∧ decide (n ≤ m) = b) (_ht : Tryd.prog.underlying t = some (.int .i64)) (ho : o.op = .binOp op t x y t2) (hx : a.eval x = .int .i64 m) (hy : a.eval y = .int .i64 n) (h : K (a.put o.dst (.bool b)) w) : o.wp Tryd.prog a w K Q := by
  obtain ⟨dst, op', type, pos, after, guard⟩ := o
  simp only at ho
  subst ho
  refine opr_val (s := do eqGuard op t x y (a.eval x) (a.eval y); binOp op t (a.eval x) (a.eval y)) rfl ?_ h
  rw [hx, hy]
  rcases hop with ⟨rfl, rfl⟩ | ⟨rfl, rfl⟩ | ⟨rfl, rfl⟩ | ⟨rfl, rfl⟩ | ⟨rfl, rfl⟩ | ⟨rfl, rfl⟩ <;> simp [go_sem]
end
section
variable {a : Act} {w : World} {o : Oper} {K : Act → World → Prop} {Q : Exit → Act → World → Prop} {x y : Operand} {g : Nat}
theorem opr_eqlQ {p q b : Bool} {t2 : TypeId} (hb : (p == q) = b) (ho : o.op = .binOp .eql 4 x y t2) (hx : a.eval x = .bool p) (hy : a.eval y = .bool q) (h : K (a.put o.dst (.bool b)) w) : o.wp Tryd.prog a w K Q := by
  obtain ⟨dst, op', type, pos, after, guard⟩ := o
  simp only at ho
  subst ho hb
  refine opr_val (s := do eqGuard .eql 4 x y (a.eval x) (a.eval y); binOp .eql 4 (a.eval x) (a.eval y)) rfl ?_ h
  rw [hx, hy]
  simp [go_sem]
/-- 'h[:]' of a hash that lies in a row. -/
theorem opr_sliceH {o0 : Nat} (ho : o.op = .slice 32 x none none none) (hx : a.eval x = .pointer (some ⟨g, o0, none⟩)) (h : K (a.put o.dst (.slice (some ⟨g, o0, none⟩) 32 32)) w) : o.wp Tryd.prog a w K Q := by
  obtain ⟨dst, op, type, pos, after, guard⟩ := o
  simp only at ho
  subst ho
  refine opr_val (s := Instr.sliceAt 32 (a.eval x) none none none) rfl ?_ h
  rw [hx]
  have hsz : (sizeOf 5).run Tryd.prog w = .ok 1 w := by
    have hs := info5s
    cases hq : Tryd.prog.info? 5 with
    | none => simp [hq] at hs
    | some i => simp [hq] at hs; simp [sizeOf, typeInfo, hq, hs]
  simp [Instr.sliceAt, run_underlying Tryd.underlying32, Instr.sureAddr, Instr.sliceBounds, hsz, Addr.add_zero']
theorem rd_rowH {t' n o0 : Nat} {F : Nat → Value} {d : Nat → UInt8} (hr : w.rowIs g t' n F) (hn : o0 + 32 ≤ n) (hv : ∀ j, j < 32 → F (o0 + j) = bF d j) : RdV w [] (.slice (some ⟨g, o0, none⟩) 32 32) (digL d) := by
  refine ⟨some ⟨g, o0, none⟩, 32, by rw [digL_length], by rw [digL_length]; exact Nat.le_refl _, by unfold maxLen; omega, fun _ => ⟨g, o0, rfl, by simp, fun i hi => ?_⟩⟩
  rw [digL_length] at hi
  rw [hr.cell (by omega), hv i hi, bF_at]
  simp [bAt, digL, hi]
theorem run_bs3 (A : Option Addr) (n c : Nat) (A2 : Option Addr) (n2 c2 : Nat) (A3 : Option Addr) (n3 c3 : Nat) (w : World) : (Instr.buildSlice 99 3 #[(0, .slice A n c), (1, .slice A2 n2 c2), (2, .slice A3 n3 c3)]).run Tryd.prog w = .ok (.slice (some ⟨w.heap.size, 0, none⟩) 3 3) (w.alloc (.cells #[.slice A n c, .slice A2 n2 c2, .slice A3 n3 c3] 49)) := by
  simp [go_sem]
theorem run_bs4 (A : Option Addr) (n c : Nat) (A2 : Option Addr) (n2 c2 : Nat) (A3 : Option Addr) (n3 c3 : Nat) (A4 : Option Addr) (n4 c4 : Nat) (w : World) : (Instr.buildSlice 99 4 #[(0, .slice A n c), (1, .slice A2 n2 c2), (2, .slice A3 n3 c3), (3, .slice A4 n4 c4)]).run Tryd.prog w = .ok (.slice (some ⟨w.heap.size, 0, none⟩) 4 4) (w.alloc (.cells #[.slice A n c, .slice A2 n2 c2, .slice A3 n3 c3, .slice A4 n4 c4] 49)) := by
  simp [go_sem]
theorem opr_bs3 {x1 x2 x3 : Operand} {l1 l2 l3 : List UInt8} (ho : o.op = .buildSlice 99 3 #[(0, x1), (1, x2), (2, x3)]) (h1 : RdV w [] (a.eval x1) l1) (h2 : RdV w [] (a.eval x2) l2) (h3 : RdV w [] (a.eval x3) l3) (h : ∀ v w', NewT w w' → Parts w' v [l1, l2, l3] → K (a.put o.dst v) w') : o.wp Tryd.prog a w K Q := by
  obtain ⟨dst, op, type, pos, after, guard⟩ := o
  simp only at ho
  subst ho
  obtain ⟨A1, c1, e1⟩ := rdV_form h1
  obtain ⟨A2, c2, e2⟩ := rdV_form h2
  obtain ⟨A3, c3, e3⟩ := rdV_form h3
  rw [e1] at h1
  rw [e2] at h2
  rw [e3] at h3
  exact opr_val (s := Instr.buildSlice 99 3 #[(0, a.eval x1), (1, a.eval x2), (2, a.eval x3)]) (by simp [execOp]) (by rw [e1, e2, e3]; exact run_bs3 _ _ _ _ _ _ _ _ _ w) (h _ _ (NewT.alloc _ _) ⟨[(.slice A1 l1.length c1, l1), (.slice A2 l2.length c2, l2), (.slice A3 l3.length c3, l3)], parts_new [(.slice A1 l1.length c1, l1), (.slice A2 l2.length c2, l2), (.slice A3 l3.length c3, l3)] 49 (by simp) (by simp) (by simp; exact ⟨h1, h2, h3⟩), rfl⟩)
theorem opr_bs4 {x1 x2 x3 x4 : Operand} {l1 l2 l3 l4 : List UInt8} (ho : o.op = .buildSlice 99 4 #[(0, x1), (1, x2), (2, x3), (3, x4)]) (h1 : RdV w [] (a.eval x1) l1) (h2 : RdV w [] (a.eval x2) l2) (h3 : RdV w [] (a.eval x3) l3) (h4 : RdV w [] (a.eval x4) l4) (h : ∀ v w', NewT w w' → Parts w' v [l1, l2, l3, l4] → K (a.put o.dst v) w') : o.wp Tryd.prog a w K Q := by
  obtain ⟨dst, op, type, pos, after, guard⟩ := o
  simp only at ho
  subst ho
  obtain ⟨A1, c1, e1⟩ := rdV_form h1
  obtain ⟨A2, c2, e2⟩ := rdV_form h2
  obtain ⟨A3, c3, e3⟩ := rdV_form h3
  obtain ⟨A4, c4, e4⟩ := rdV_form h4
  rw [e1] at h1
  rw [e2] at h2
  rw [e3] at h3
  rw [e4] at h4
  exact opr_val (s := Instr.buildSlice 99 4 #[(0, a.eval x1), (1, a.eval x2), (2, a.eval x3), (3, a.eval x4)]) (by simp [execOp]) (by rw [e1, e2, e3, e4]; exact run_bs4 _ _ _ _ _ _ _ _ _ _ _ _ w) (h _ _ (NewT.alloc _ _) ⟨[(.slice A1 l1.length c1, l1), (.slice A2 l2.length c2, l2), (.slice A3 l3.length c3, l3), (.slice A4 l4.length c4, l4)], parts_new [(.slice A1 l1.length c1, l1), (.slice A2 l2.length c2, l2), (.slice A3 l3.length c3, l3), (.slice A4 l4.length c4, l4)] 49 (by simp) (by simp) (by simp; exact ⟨h1, h2, h3, h4⟩), rfl⟩)
end
end Go.Proofs.YtchpmdcacpjojaaDoor
/- Merkle trees on lists, whatever a node's hash is: a list's root, a frontier's whole trees, and that they agree. No program is named. -/
namespace Go.Proofs.YtchpmdcacpjojaaDoor
set_option maxRecDepth 8000
set_option linter.all false
/-- The greatest power of two below n; 0 of n below 2. -/
def splitN (n : Nat) : Nat := if n < 2 then 0 else 2 ^ (n - 1).log2
theorem splitN_eq (k m : Nat) (h0 : 0 < m) (h1 : m ≤ 2 ^ k) : splitN (2 ^ k + m) = 2 ^ k := by
  have hp : 0 < 2 ^ k := Nat.two_pow_pos k
  unfold splitN
  rw [if_neg (by omega)]
  have : (2 ^ k + m - 1).log2 = k := by
    rw [Nat.log2_eq_iff (by omega)]
    rw [Nat.pow_succ]
    omega
  rw [this]
theorem splitN_lt (n : Nat) (h : 2 ≤ n) : splitN n < n ∧ 0 < splitN n ∧ n ≤ 2 * splitN n := by
  unfold splitN
  rw [if_neg (by omega)]
  have h1 := Nat.two_pow_pos (n - 1).log2
  have h2 : 2 ^ (n - 1).log2 ≤ n - 1 := Nat.log2_self_le (by omega)
  have h3 : n - 1 < 2 ^ ((n - 1).log2 + 1) := Nat.lt_log2_self
  rw [Nat.pow_succ] at h3
  omega
section
variable {H : Type} (node : H → H → H) (z : H)
/-- A list's root. -/
def rootM (l : List H) : H :=
  if h : l.length < 2 then l.headD z
  else node (rootM (l.take (splitN l.length))) (rootM (l.drop (splitN l.length)))
termination_by l.length
decreasing_by
  · have := splitN_lt l.length (by omega); simp; omega
  · have := splitN_lt l.length (by omega); simp; omega
theorem rootM_nil : rootM node z [] = z := by unfold rootM; simp
theorem rootM_one (h : H) : rootM node z [h] = h := by unfold rootM; simp
theorem rootM_split (l : List H) (h : 2 ≤ l.length) : rootM node z l = node (rootM node z (l.take (splitN l.length))) (rootM node z (l.drop (splitN l.length))) := by
  rw [rootM, dif_neg (by omega)]
theorem rootM_app (a b : List H) (k : Nat) (ha : a.length = 2 ^ k) (h0 : 0 < b.length) (h1 : b.length ≤ 2 ^ k) : rootM node z (a ++ b) = node (rootM node z a) (rootM node z b) := by
  have hp : 0 < 2 ^ k := Nat.two_pow_pos k
  have e : splitN (a ++ b).length = a.length := by rw [List.length_append, ha]; exact splitN_eq k _ h0 h1
  rw [rootM_split node z (a ++ b) (by rw [List.length_append]; omega), e, List.take_left, List.drop_left]
/-- A frontier: whole trees, the greatest first, each with its height. -/
inductive Fr : List (Nat × H) → List H → Prop
  | nil : Fr [] []
  | cons {k : Nat} {l l' : List H} {F : List (Nat × H)} : l.length = 2 ^ k → (∀ p ∈ F, p.1 < k) → Fr F l' → Fr ((k, rootM node z l) :: F) (l ++ l')
variable {node z}
theorem Fr.lt {F : List (Nat × H)} {l : List H} (h : Fr node z F l) (k : Nat) (hk : ∀ p ∈ F, p.1 < k) : l.length < 2 ^ k := by
  induction h generalizing k with
  | nil => exact Nat.two_pow_pos k
  | @cons k' a b F ha hF _ ih =>
    have h1 := ih k' hF
    have h2 : k' < k := hk (k', rootM node z a) (by simp)
    have h3 : 2 ^ (k' + 1) ≤ 2 ^ k := Nat.pow_le_pow_right (by omega) h2
    rw [Nat.pow_succ] at h3
    rw [List.length_append]; omega
theorem Fr.pos {F : List (Nat × H)} {l : List H} (h : Fr node z F l) (hF : F ≠ []) : 0 < l.length := by
  cases h with
  | nil => exact absurd rfl hF
  | @cons k a b F ha _ _ => have := Nat.two_pow_pos k; rw [List.length_append]; omega
variable (node z)
/-- A frontier's root. -/
def rootF : List H → H
  | [] => z
  | [h] => h
  | h :: g :: r => node h (rootF (g :: r))
variable {node z}
theorem Fr.root {F : List (Nat × H)} {l : List H} (h : Fr node z F l) : rootF node z (F.map (·.2)) = rootM node z l := by
  induction h with
  | nil => rw [rootM_nil]; rfl
  | @cons k a b F ha hF hb ih =>
    cases F with
    | nil => cases hb; simp [rootF]
    | cons p F =>
      have h0 := hb.pos (by simp)
      have h1 := hb.lt k hF
      rw [rootM_app node z a b k ha h0 (by omega), ← ih]
      rfl
/-- How many ones are in a number. -/
def onesN (n : Nat) : Nat := if h : n = 0 then 0 else n % 2 + onesN (n / 2)
termination_by n
theorem onesN_zero : onesN 0 = 0 := by unfold onesN; simp
theorem onesN_step (n : Nat) : onesN n = n % 2 + onesN (n / 2) := by
  by_cases h : n = 0
  · subst h; simp [onesN_zero]
  · rw [onesN, dif_neg h]
theorem onesN_pow (k : Nat) : ∀ m, m < 2 ^ k → onesN (2 ^ k + m) = 1 + onesN m := by
  induction k with
  | zero => intro m h; obtain rfl : m = 0 := by omega
            rw [onesN_step]
  | succ k ih =>
    intro m h
    rw [Nat.pow_succ] at h ⊢
    rw [onesN_step, onesN_step m]
    have e1 : (2 ^ k * 2 + m) % 2 = m % 2 := by omega
    have e2 : (2 ^ k * 2 + m) / 2 = 2 ^ k + m / 2 := by omega
    rw [e1, e2, ih (m / 2) (by omega)]
    omega
theorem Fr.ones {F : List (Nat × H)} {l : List H} (h : Fr node z F l) : F.length = onesN l.length := by
  induction h with
  | nil => simp [onesN_zero]
  | @cons k a b F ha hF hb ih =>
    rw [List.length_append, ha, onesN_pow k _ (hb.lt k hF), ← ih]; simp; omega
/-- Two frontiers side by side. -/
theorem Fr.append {F : List (Nat × H)} {l : List H} (h : Fr node z F l) : ∀ {G : List (Nat × H)} {m : List H}, Fr node z G m → (∀ p ∈ F, ∀ q ∈ G, q.1 < p.1) → Fr node z (F ++ G) (l ++ m) := by
  induction h with
  | nil => intro G m hG _; simpa using hG
  | @cons k a b F ha hF hb ih =>
    intro G m hG hlt
    rw [List.append_assoc]
    refine Fr.cons ha (fun p hp => ?_) (ih hG fun p hp q hq => hlt p (by simp [hp]) q hq)
    rcases List.mem_append.1 hp with hp | hp
    · exact hF p hp
    · exact hlt (k, rootM node z a) (by simp) p hp
theorem Fr.snoc_inv {F : List (Nat × H)} {k : Nat} {h : H} : ∀ {l : List H}, Fr node z (F ++ [(k, h)]) l → ∃ a b, l = a ++ b ∧ Fr node z F a ∧ b.length = 2 ^ k ∧ h = rootM node z b ∧ ∀ p ∈ F, k < p.1 := by
  induction F with
  | nil =>
    intro l hl
    cases hl with
    | cons ha _ hb => cases hb; exact ⟨[], _, by simp, .nil, ha, rfl, by simp⟩
  | cons p F ih =>
    intro l hl
    cases hl with
    | @cons k' x y F' ha hF hb =>
      obtain ⟨a, b, rfl, h1, h2, h3, h4⟩ := ih hb
      refine ⟨x ++ a, b, by simp, .cons ha (fun q hq => hF q (by simp [hq])) h1, h2, h3, ?_⟩
      intro q hq
      rcases List.mem_cons.1 hq with rfl | hq
      · exact hF (k, h) (by simp)
      · exact h4 q hq
variable (node)
/-- One whole tree more, at a frontier's end (the smallest first): trees of one height are joined. -/
def addR : Nat → H → List (Nat × H) → List (Nat × H)
  | k, h, [] => [(k, h)]
  | k, h, (k', h') :: S => if k' = k then addR (k + 1) (node h' h) S else (k, h) :: (k', h') :: S
variable {node}
theorem addR_fr (S : List (Nat × H)) : ∀ (k : Nat) (b l : List H), b.length = 2 ^ k → Fr node z S.reverse l → (∀ p ∈ S, k ≤ p.1) → Fr node z (addR node k (rootM node z b) S).reverse (l ++ b) := by
  induction S with
  | nil => intro k b l hb hl _
           cases hl
           have := Fr.cons (node := node) (z := z) (F := []) hb (by simp) .nil
           simpa [addR] using this
  | cons p S ih =>
    intro k b l hb hl hk
    obtain ⟨k', h'⟩ := p
    rw [List.reverse_cons] at hl
    obtain ⟨a, c, rfl, h1, h2, h3, h4⟩ := hl.snoc_inv
    unfold addR
    by_cases he : k' = k
    · subst he
      rw [if_pos rfl, h3, ← rootM_app node z c b k' h2 (by have := Nat.two_pow_pos k'; omega) (by omega), List.append_assoc]
      refine ih (k' + 1) (c ++ b) a (by rw [List.length_append, h2, hb, Nat.pow_succ]; omega) h1 (fun p hp => ?_)
      exact h4 p (by simpa using hp)
    · rw [if_neg he, List.reverse_cons, List.reverse_cons]
      have hk' : k < k' := by have := hk (k', h') (by simp); simp at this; omega
      have h5 : Fr node z [(k, rootM node z b)] b := by simpa using Fr.cons (node := node) (z := z) (F := []) hb (by simp) .nil
      refine hl.append h5 (fun p hp q hq => ?_)
      obtain rfl : q = (k, rootM node z b) := by simpa using hq
      rcases List.mem_append.1 hp with hp | hp
      · have := h4 p hp; simp; omega
      · obtain rfl : p = (k', h') := by simpa using hp
        simpa using hk'
/-- A leaf more. -/
theorem addR_one (S : List (Nat × H)) (h : H) (l : List H) (hl : Fr node z S.reverse l) : Fr node z (addR node 0 h S).reverse (l ++ [h]) := by
  have := addR_fr S 0 [h] l rfl hl (fun _ _ => Nat.zero_le _)
  rwa [rootM_one] at this
/-- A whole tree's frontier is one root. -/
theorem Fr.whole {F : List (Nat × H)} {l : List H} (h : Fr node z F l) (k : Nat) (hl : l.length = 2 ^ k) : F = [(k, rootM node z l)] := by
  cases h with
  | nil => have := Nat.two_pow_pos k; simp at hl; omega
  | @cons k' a b F ha hF hb =>
    have h1 := hb.lt k' hF
    rw [List.length_append, ha] at hl
    have hk : k' = k := by
      rcases Nat.lt_trichotomy k' k with h | h | h
      · have : 2 ^ (k' + 1) ≤ 2 ^ k := Nat.pow_le_pow_right (by omega) h
        rw [Nat.pow_succ] at this; omega
      · exact h
      · have : 2 ^ (k + 1) ≤ 2 ^ k' := Nat.pow_le_pow_right (by omega) h
        rw [Nat.pow_succ] at this; omega
    subst hk
    have hb0 : b.length = 0 := by omega
    cases hb with
    | nil => simp
    | cons hc _ _ => have := Nat.two_pow_pos ‹Nat›; simp at hb0; rw [hb0.1] at hc; simp at hc; omega
variable (node z)
/-- The roots of a list's whole trees, the greatest first. -/
def treesM (l : List H) : List H :=
  if h : l.length = 0 then [] else rootM node z (l.take (2 ^ l.length.log2)) :: treesM (l.drop (2 ^ l.length.log2))
termination_by l.length
decreasing_by have := Nat.two_pow_pos l.length.log2; simp; omega
variable {node z}
theorem Fr.trees {F : List (Nat × H)} {l : List H} (h : Fr node z F l) : F.map (·.2) = treesM node z l := by
  induction h with
  | nil => unfold treesM; simp
  | @cons k a b F ha hF hb ih =>
    have hp := Nat.two_pow_pos k
    have h1 := hb.lt k hF
    have e : (a ++ b).length.log2 = k := by rw [List.length_append, ha, Nat.log2_eq_iff (by omega), Nat.pow_succ]; omega
    rw [treesM, dif_neg (by rw [List.length_append]; omega), e, ← ha, List.take_left, List.drop_left, ← ih]
    rfl
/-- Every list has a frontier, that which its leaves make one by one. -/
theorem fr_all (l : List H) : ∃ S : List (Nat × H), Fr node z S.reverse l ∧ S = l.foldl (fun S h => addR node 0 h S) [] := by
  suffices ∀ (m l : List H) (S : List (Nat × H)), Fr node z S.reverse l → Fr node z (m.foldl (fun S h => addR node 0 h S) S).reverse (l ++ m) by
    exact ⟨_, by simpa using this l [] [] .nil, rfl⟩
  intro m
  induction m with
  | nil => intro l S h; simpa using h
  | cons x m ih => intro l S h; have := ih (l ++ [x]) _ (addR_one S x l h); simpa using this
variable (node)
/-- Two and two. -/
def pairsM : List H → List H
  | a :: b :: l => node a b :: pairsM l
  | _ => []
variable {node}
theorem pairsM_app : ∀ (n : Nat) (a b : List H), a.length = 2 * n → pairsM node (a ++ b) = pairsM node a ++ pairsM node b := by
  intro n
  induction n with
  | zero => intro a b h; obtain rfl : a = [] := List.eq_nil_of_length_eq_zero (by omega)
            simp [pairsM]
  | succ n ih =>
    intro a b h
    match a, h with
    | x :: y :: a, h => simp [pairsM]; exact ih a b (by simp at h; omega)
theorem pairsM_length : ∀ (n : Nat) (a : List H), a.length = 2 * n → (pairsM node a).length = n := by
  intro n
  induction n with
  | zero => intro a h; obtain rfl : a = [] := List.eq_nil_of_length_eq_zero (by omega)
            rfl
  | succ n ih =>
    intro a h
    match a, h with
    | x :: y :: a, h => simp [pairsM]; exact ih a (by simp at h; omega)
theorem rootM_pairs (k : Nat) : ∀ l : List H, l.length = 2 ^ (k + 1) → rootM node z l = rootM node z (pairsM node l) := by
  induction k with
  | zero =>
    intro l h
    match l, h with
    | [a, b], _ =>
      have := rootM_app node z [a] [b] 0 rfl (by simp) (by simp)
      simpa [pairsM, rootM_one] using this
  | succ k ih =>
    intro l h
    have hp := Nat.two_pow_pos (k + 1)
    have h1 : (l.take (2 ^ (k + 1))).length = 2 ^ (k + 1) := by rw [List.length_take, h, Nat.pow_succ 2 (k + 1)]; omega
    have h2 : (l.drop (2 ^ (k + 1))).length = 2 ^ (k + 1) := by rw [List.length_drop, h, Nat.pow_succ 2 (k + 1)]; omega
    have e : 2 ^ (k + 1) = 2 * 2 ^ k := by rw [Nat.pow_succ]; omega
    have l1 := pairsM_length (node := node) (2 ^ k) _ (h1.trans e)
    have l2 := pairsM_length (node := node) (2 ^ k) _ (h2.trans e)
    have hk := Nat.two_pow_pos k
    rw [← List.take_append_drop (2 ^ (k + 1)) l, pairsM_app (2 ^ k) _ _ (h1.trans e), rootM_app node z _ _ (k + 1) h1 (by omega) (by omega), rootM_app node z _ _ k l1 (by omega) (by omega), ih _ h1, ih _ h2]
end
end Go.Proofs.YtchpmdcacpjojaaDoor
/- Slices of hashes that read as lists: elements, parts, new ones, appends. -/
namespace Go.Proofs.YtchpmdcacpjojaaDoor
open Go Go.RowKit
set_option maxRecDepth 8000
set_option linter.all false

/-- A hash, byte by byte. -/
abbrev Hs := Nat → UInt8
/-- A slice of hashes reads as l. -/
def RdH (W : World) (v : Value) (l : List Hs) : Prop :=
  ∃ A cap, v = .slice A l.length cap ∧ l.length ≤ cap ∧ cap ≤ maxLen ∧ (0 < l.length → ∃ b o, A = some ⟨b, o, none⟩ ∧ ∀ i d, l[i]? = some d → ∀ j, j < 32 → W.cell? ⟨b, o + i * 32 + j, none⟩ = some (bF d j))
theorem NewT.hs {w w' : World} (h : NewT w w') {v : Value} {l : List Hs} (hr : RdH w v l) : RdH w' v l := by
  obtain ⟨A, cap, hv, h1, h2, h3⟩ := hr
  refine ⟨A, cap, hv, h1, h2, fun h0 => ?_⟩
  obtain ⟨b, o, hA, hc⟩ := h3 h0
  exact ⟨b, o, hA, fun i d hd j hj => (h.out.cell (p := ⟨b, o + i * 32 + j, none⟩) (World.block_lt_of_cell? _ _ (hc i d hd j hj))).trans (hc i d hd j hj)⟩
def svH (l : List Hs) : SV NewT := ⟨fun v w => RdH w v l, fun _ _ _ h hT => hT.hs h⟩
theorem rdH_form {w : World} {v : Value} {l : List Hs} (h : RdH w v l) : ∃ A c, v = .slice A l.length c := by
  obtain ⟨A, c, hv, _⟩ := h; exact ⟨A, c, hv⟩
theorem rdH_nil (w : World) : RdH w (.slice none 0 0) [] := ⟨none, 0, rfl, Nat.le_refl _, by unfold maxLen; omega, fun h => absurd h (by simp)⟩
/-- The cells of hashes, one behind the other. -/
def hcs (l : List Hs) : List Value := l.flatMap fun d => (List.range 32).map (bF d)
theorem hcs_length (l : List Hs) : (hcs l).length = l.length * 32 := by
  induction l with
  | nil => rfl
  | cons d l ih => rw [hcs, List.flatMap_cons, List.length_append, show (l.flatMap fun d => (List.range 32).map (bF d)) = hcs l from rfl, ih]; simp; omega
theorem hcs_app (a b : List Hs) : hcs (a ++ b) = hcs a ++ hcs b := by simp [hcs]
theorem hcs_one (d : Hs) : hcs [d] = (List.range 32).map (bF d) := by simp [hcs]
theorem hcs_at (l : List Hs) : ∀ (i : Nat) (d : Hs), l[i]? = some d → ∀ j, j < 32 → (hcs l)[i * 32 + j]? = some (bF d j) := by
  induction l with
  | nil => intro i d h; simp at h
  | cons e l ih =>
    intro i d h j hj
    have hl : ((List.range 32).map (bF e)).length = 32 := by simp
    rw [show hcs (e :: l) = (List.range 32).map (bF e) ++ hcs l from rfl]
    cases i with
    | zero => simp at h; subst h; rw [List.getElem?_append_left (by rw [hl]; omega)]; simp [hj]
    | succ i => rw [List.getElem?_append_right (by rw [hl]; omega), hl, show (i + 1) * 32 + j - 32 = i * 32 + j by omega]; exact ih i d (by simpa using h) j hj
theorem hcs_one_cell (l : List Hs) : ∀ u ∈ hcs l, u.oneCell' = true := by
  intro u hu
  obtain ⟨d, _, h⟩ := List.mem_flatMap.1 hu
  obtain ⟨j, _, rfl⟩ := List.mem_map.1 h
  rfl
theorem hcs_take (l : List Hs) (n : Nat) (h : n ≤ l.length) : (hcs l).take (n * 32) = hcs (l.take n) := by
  have e := hcs_app (l.take n) (l.drop n)
  rw [List.take_append_drop] at e
  have hl : (hcs (l.take n)).length = n * 32 := by rw [hcs_length, List.length_take]; congr 1; omega
  rw [e, ← hl, List.take_left]
/-- The cells that a slice of hashes reads, as a list. -/
theorem RdH.news {w : World} {l : List Hs} {b o n c : Nat} (h : RdH w (.slice (some ⟨b, o, none⟩) n c) l) : ∀ j u, (hcs l)[j]? = some u → w.cell? ((⟨b, o, none⟩ : Addr).add j) = some u := by
  intro j u hj
  obtain ⟨A, cap, hv, _, _, h3⟩ := h
  have hlt : j < l.length * 32 := by rw [← hcs_length]; exact (List.getElem?_eq_some_iff.1 hj).1
  obtain ⟨b', o', hA, hc⟩ := h3 (by omega)
  injection hv with e1 _ _
  rw [hA] at e1
  cases e1
  have hi : j / 32 < l.length := by omega
  have hd : l[j / 32]? = some l[j / 32] := List.getElem?_eq_getElem hi
  have h1 := hcs_at l _ _ hd (j % 32) (by omega)
  rw [show j / 32 * 32 + j % 32 = j by omega] at h1
  rw [h1] at hj
  cases hj
  have := hc _ _ hd (j % 32) (by omega)
  rw [Addr.add_mid, show o + j = o + j / 32 * 32 + j % 32 by omega]
  exact this
/-- A row of hashes of the call's own reads as a list. -/
theorem rdH_own {W : World} {base : Nat} {v : Value} {l : List Hs} (h : W.ownsRow base 32 32 v l.length (hcs l)) : RdH W v l := by
  rcases h.2 with ⟨rfl, h0⟩ | ⟨g, cap, cur, rfl, hb, _, hnc, hcm, _, _⟩
  · have : l = [] := List.eq_nil_of_length_eq_zero h0
    subst this
    exact rdH_nil W
  · refine ⟨some ⟨g, 0, none⟩, cap, rfl, hnc, hcm, fun _ => ⟨g, 0, rfl, fun i d hd j hj => ?_⟩⟩
    have hc := h.cells (g := g) rfl (i * 32 + j) _ (hcs_at l i d hd j hj)
    rw [Addr.add_mid] at hc
    rw [Nat.add_assoc]; exact hc
/-- A row of cells that holds hashes reads as a list. -/
theorem rdH_row {W : World} {g t n : Nat} {f : Nat → Value} {l : List Hs} (h : W.rowIs g t n f) (hn : l.length * 32 ≤ n) (hm : l.length ≤ maxLen) (hf : ∀ i d, l[i]? = some d → ∀ j, j < 32 → f (i * 32 + j) = bF d j) : RdH W (.slice (some ⟨g, 0, none⟩) l.length l.length) l := by
  refine ⟨some ⟨g, 0, none⟩, l.length, rfl, Nat.le_refl _, hm, fun _ => ⟨g, 0, rfl, fun i d hd j hj => ?_⟩⟩
  have hi : i < l.length := (List.getElem?_eq_some_iff.1 hd).1
  rw [show 0 + i * 32 + j = i * 32 + j by omega, h.cell (by omega), hf i d hd j hj]
theorem size_hash : (Tryd.prog.info? 32).map (·.size) = some 32 := info31
theorem run_size_hash (w : World) : (sizeOf 32).run Tryd.prog w = .ok 32 w := by
  have hs := size_hash
  cases hq : Tryd.prog.info? 32 with
  | none => simp [hq] at hs
  | some i => simp [hq] at hs; simp [sizeOf, typeInfo, hq, hs]
section
variable {a : Act} {w : World} {o : Oper} {K : Act → World → Prop} {Q : Exit → Act → World → Prop} {x y : Operand}
theorem opr_len_h {l : List Hs} (ho : o.op = .call { callee := .builtin .len, args := #[x], argTypes := #[22] }) (hx : RdH w (a.eval x) l) (h : K (a.put o.dst (.int .i64 (l.length : Int))) w) : o.wp Tryd.prog a w K Q := by
  obtain ⟨A, c, hv, _⟩ := hx
  exact opr_len ho Tryd.underlying22 hv h
theorem run_idxH {b off n c i : Nat} (w : World) (hi : i < n) : (Instr.indexAt 22 (.slice (some ⟨b, off, none⟩) n c) (.int .i64 (i : Int))).run Tryd.prog w = .ok (.pointer (some ⟨b, off + i * 32, none⟩)) w := by
  simp [Instr.indexAt, asIntOf, run_underlying Tryd.underlying22, run_size_hash, hi, Addr.add_mid]
/-- An element's place: where the hash d lies. -/
def svP (d : Hs) : SV NewT := ⟨fun v w => ∃ b off, v = .pointer (some ⟨b, off, none⟩) ∧ ∀ j, j < 32 → w.cell? ⟨b, off + j, none⟩ = some (bF d j), fun _ w w' h hT => by
  obtain ⟨b, off, hv, hc⟩ := h
  exact ⟨b, off, hv, fun j hj => (hT.out.cell (p := ⟨b, off + j, none⟩) (World.block_lt_of_cell? _ _ (hc j hj))).trans (hc j hj)⟩⟩
theorem opr_idxH {l : List Hs} {i : Nat} {n : Int} {d : Hs} (hd : l[i]? = some d) (hn : n = (i : Int)) (ho : o.op = .indexAddr 22 x y) (hx : RdH w (a.eval x) l) (hy : a.eval y = .int .i64 n) (h : ∀ v, (svP d).pred v w → K (a.put o.dst v) w) : o.wp Tryd.prog a w K Q := by
  subst hn
  obtain ⟨dst, op, type, pos, after, guard⟩ := o
  simp only at ho
  subst ho
  obtain ⟨A, c, hv, _, _, h3⟩ := hx
  have hi : i < l.length := (List.getElem?_eq_some_iff.1 hd).1
  obtain ⟨b, off, rfl, hc⟩ := h3 (by omega)
  exact opr_val (s := Instr.indexAt 22 (a.eval x) (a.eval y)) rfl (by rw [hv, hy]; exact run_idxH w hi) (h _ ⟨b, off + i * 32, rfl, fun j hj => hc i d hd j hj⟩)
theorem run_ldH_at {b off : Nat} {d : Hs} {w : World} (hc : ∀ j, j < 32 → w.cell? ⟨b, off + j, none⟩ = some (bF d j)) : (Instr.loadAt 32 (.pointer (some ⟨b, off, none⟩))).run Tryd.prog w = .ok (.agg (rowA 32 (bF d))) w := by
  have hr : w.rangeAt b off (rowA 32 (bF d)).toList := fun j v hv => by
    rw [rowA_toList] at hv
    have hj : j < 32 := by have := (List.getElem?_eq_some_iff.1 hv).1; simpa using this
    simp [hj] at hv
    subst hv
    exact hc j hj
  have := run_loadAt_mid (P := Tryd.prog) w b off 32 (rowA 32 (bF d)).toList _ hr Tryd.underlying32 rfl (by rw [rowA_toList]; simpa using info31)
  simpa using this
theorem opr_ldP {d : Hs} (ho : o.op = .load 32 x) (hx : (svP d).pred (a.eval x) w) (h : K (a.put o.dst (.agg (rowA 32 (bF d)))) w) : o.wp Tryd.prog a w K Q := by
  obtain ⟨dst, op, type, pos, after, guard⟩ := o
  simp only at ho
  subst ho
  obtain ⟨b, off, hv, hc⟩ := hx
  exact opr_val (s := Instr.loadAt 32 (a.eval x)) rfl (by rw [hv]; exact run_ldH_at hc) h
theorem run_toH {A : Option Addr} {n c k : Nat} (w : World) (hk : k ≤ n) (hn : n ≤ c) : (Instr.slice 22 (.slice A n c) none (some (.int .i64 (k : Int))) none).run Tryd.prog w = .ok (.slice A k c) w := by
  have h1 : k ≤ c := by omega
  have e : A.map (fun a => a.add 0) = A := by cases A <;> simp [Addr.add_zero']
  by_cases hc0 : c = 0
  · obtain rfl : k = 0 := by omega
    subst hc0; simp [Instr.slice, run_underlying Tryd.underlying22, Instr.sliceBounds, Instr.sliceBound, asIntOf, run_size_hash, h1]
  · simp [Instr.slice, run_underlying Tryd.underlying22, Instr.sliceBounds, Instr.sliceBound, asIntOf, run_size_hash, h1, hc0, e]
theorem run_fromH {A : Option Addr} {n c k : Nat} (w : World) (hk : k ≤ n) : (Instr.slice 22 (.slice A n c) (some (.int .i64 (k : Int))) none none).run Tryd.prog w = .ok (.slice (if c = k then A else A.map (·.add (k * 32))) (n - k) (c - k)) w := by
  have h1 : k ≤ n := hk
  by_cases hc : c = k
  · simp [Instr.slice, run_underlying Tryd.underlying22, Instr.sliceBounds, Instr.sliceBound, asIntOf, run_size_hash, h1, hc]
  · simp [Instr.slice, run_underlying Tryd.underlying22, Instr.sliceBounds, Instr.sliceBound, asIntOf, run_size_hash, h1, hc]
theorem rdH_take {A : Option Addr} {l : List Hs} {c k : Nat} (h : RdH w (.slice A l.length c) l) (hk : k ≤ l.length) : RdH w (.slice A k c) (l.take k) := by
  obtain ⟨A', c', hv, h1, h2, h3⟩ := h
  cases hv
  have hl : (l.take k).length = k := by rw [List.length_take]; omega
  refine ⟨A, c, by rw [hl], by rw [hl]; omega, h2, fun h0 => ?_⟩
  rw [hl] at h0
  obtain ⟨b, off, hA, hc⟩ := h3 (by omega)
  refine ⟨b, off, hA, fun i d hd j hj => hc i d ?_ j hj⟩
  rw [List.getElem?_take] at hd
  split at hd
  · exact hd
  · cases hd
theorem rdH_drop {A : Option Addr} {l : List Hs} {c k : Nat} (h : RdH w (.slice A l.length c) l) (hk : k ≤ l.length) : RdH w (.slice (if c = k then A else A.map (·.add (k * 32))) (l.length - k) (c - k)) (l.drop k) := by
  obtain ⟨A', c', hv, h1, h2, h3⟩ := h
  cases hv
  have hl : (l.drop k).length = l.length - k := by simp
  refine ⟨_, c - k, by rw [hl], by rw [hl]; omega, by omega, fun h0 => ?_⟩
  rw [hl] at h0
  obtain ⟨b, off, rfl, hc⟩ := h3 (by omega)
  refine ⟨b, off + k * 32, by rw [if_neg (by omega)]; simp [Addr.add_mid], fun i d hd j hj => ?_⟩
  have := hc (k + i) d (by simpa using hd) j hj
  rw [show off + k * 32 + i * 32 + j = off + (k + i) * 32 + j by omega]
  exact this
/-- 'l[:k]'. -/
theorem opr_toH {l : List Hs} {k : Nat} {n : Int} (hk : k ≤ l.length) (hn : n = (k : Int)) (ho : o.op = .slice 22 x none (some y) none) (hx : RdH w (a.eval x) l) (hy : a.eval y = .int .i64 n) (h : ∀ v, RdH w v (l.take k) → K (a.put o.dst v) w) : o.wp Tryd.prog a w K Q := by
  subst hn
  obtain ⟨dst, op, type, pos, after, guard⟩ := o
  simp only at ho
  subst ho
  obtain ⟨A, c, hv⟩ := rdH_form hx
  have hc : l.length ≤ c := by obtain ⟨A', c', hv', h1, _⟩ := hx; rw [hv] at hv'; cases hv'; exact h1
  rw [hv] at hx
  exact opr_val (s := Instr.sliceAt 22 (a.eval x) none (some (a.eval y)) none) (by simp [execOp]) (by rw [hv, hy]; simp [Instr.sliceAt, run_underlying Tryd.underlying22]; exact run_toH w hk hc) (h _ (rdH_take hx hk))
/-- 'l[k:]'. -/
theorem opr_fromH {l : List Hs} {k : Nat} {n : Int} (hk : k ≤ l.length) (hn : n = (k : Int)) (ho : o.op = .slice 22 x (some y) none none) (hx : RdH w (a.eval x) l) (hy : a.eval y = .int .i64 n) (h : ∀ v, RdH w v (l.drop k) → K (a.put o.dst v) w) : o.wp Tryd.prog a w K Q := by
  subst hn
  obtain ⟨dst, op, type, pos, after, guard⟩ := o
  simp only at ho
  subst ho
  obtain ⟨A, c, hv⟩ := rdH_form hx
  rw [hv] at hx
  exact opr_val (s := Instr.sliceAt 22 (a.eval x) (some (a.eval y)) none none) (by simp [execOp]) (by rw [hv, hy]; simp [Instr.sliceAt, run_underlying Tryd.underlying22]; exact run_fromH w hk) (h _ (rdH_drop hx hk))
end
end Go.Proofs.YtchpmdcacpjojaaDoor
/- Keys and checkpoints that came in, opened (layer 10): structs by value. No program is named here but by its facts on types. -/
namespace Go.Proofs.YtchpmdcacpjojaaDoor
open Go Go.ChangeShapes Go.WideShapes Go.ChangeAt Go.WideMaps Go.WideElems Go.RowKit
set_option maxRecDepth 8000
set_option linter.all false
/-- What a program's types must say of a hash. -/
structure HashTy (P : Program) (t e : TypeId) : Prop where
  arr : P.underlying t = some (.array 32 e)
  u8 : P.underlying e = some (.int .u8)
  ce : P.cellsOf t = 32
  c8 : P.cellsOf e = 1
/-- The cells of a mark: a witness's number, a tag. -/
def sigF (s : Int × Hs) (i : Nat) : Value := if i = 0 then .int .i64 s.1 else bF s.2 (i - 1)
/-- A slice of marks reads as l. -/
def RdS (W : World) (v : Value) (l : List (Int × Hs)) : Prop :=
  ∃ A cap, v = .slice A l.length cap ∧ l.length ≤ cap ∧ cap ≤ maxLen ∧ (0 < l.length → ∃ b o, A = some ⟨b, o, none⟩ ∧ ∀ i x, l[i]? = some x → ∀ j, j < 33 → W.cell? ⟨b, o + i * 33 + j, none⟩ = some (sigF x j))
theorem NewT.sigs {w w' : World} (h : NewT w w') {v : Value} {l : List (Int × Hs)} (hr : RdS w v l) : RdS w' v l := by
  obtain ⟨A, cap, hv, h1, h2, h3⟩ := hr
  refine ⟨A, cap, hv, h1, h2, fun h0 => ?_⟩
  obtain ⟨b, o, hA, hc⟩ := h3 h0
  exact ⟨b, o, hA, fun i x hx j hj => (h.out.cell (p := ⟨b, o + i * 33 + j, none⟩) (World.block_lt_of_cell? _ _ (hc i x hx j hj))).trans (hc i x hx j hj)⟩
section
variable {H : Type} {enc : TypeId × Value → H} {P : Program} {w : World} {base : Nat} {spare : Nat → Bool} {held : Bool} {n : Nat} {ty : TypeId} {o : Nat} {cs : Array Value}
theorem field_hashes {tH e : TypeId} (hT : P.underlying ty = some (.slice tH)) (tH' : HashTy P tH e) (hc : P.cellsOf ty = 1) (h : ∃ y, DataW.trod enc P w base spare held n ty ((cs.toList.drop o).take (P.cellsOf ty)) = some y) : ∃ v l, cs[o]? = some v ∧ RdH w v l := by
  obtain ⟨y, h⟩ := h
  rw [hc] at h
  rcases Go.Deep.open_slice hT h with ⟨hcs, _⟩ | ⟨a, len, cap, m, n', D, Pl, hcs, _, hl, hm, hmm, _, hx⟩
  · exact ⟨_, [], take_one hcs, none, 0, rfl, by simp, by unfold maxLen; omega, fun h0 => absurd h0 (by simp)⟩
  · have hlm : len ≤ m := by rw [hmm]; split <;> omega
    have each : ∀ i, i < len → ∃ d : Hs, ∀ j, j < 32 → w.cell? (a.add (i * 32 + j)) = some (bF d j) := fun i hi => by
      obtain ⟨cs', h1, h2⟩ := hx i (by omega)
      rw [tH'.ce] at h1
      obtain ⟨_, hlen, hcell⟩ := World.cells?_some h1
      obtain ⟨d, hd⟩ := field_hash (cs := cs'.toArray) (o := 0) (m := 32) tH'.arr tH'.u8 tH'.ce tH'.c8 ⟨_, by simpa [tH'.ce, ← hlen] using h2⟩
      refine ⟨d, fun j hj => ?_⟩
      have h4 := hcell j (by omega)
      rw [Go.Deep.add_add] at h4
      rw [h4]
      have := hd j hj
      simpa [bF] using this
    obtain ⟨q, hq⟩ := Go.Deep.choose_lt each
    have hlen : ((List.range len).map q).length = len := by simp
    refine ⟨_, (List.range len).map q, take_one hcs, some a, cap, by rw [hlen], by rw [hlen]; exact hl, hm, fun h0 => ?_⟩
    rw [hlen] at h0
    obtain ⟨b, off, spot⟩ := a
    have hspot : spot = none := by simpa [Addr.add] using World.cell?_spot (hq 0 h0 0 (by omega))
    subst hspot
    refine ⟨b, off, rfl, fun i d hd j hj => ?_⟩
    have hi : i < len := by have := (List.getElem?_eq_some_iff.1 hd).1; simpa using this
    simp [hi] at hd
    subst hd
    have := hq i hi j hj
    rwa [Go.WideShapes.add_plain, ← Nat.add_assoc] at this
theorem field_sigs {e tH e8 : TypeId} {f0 f1 : Field} (hT : P.underlying ty = some (.slice e)) (he : P.underlying e = some (.struct #[f0, f1])) (ce : P.cellsOf e = 33) (o0 : f0.offset = 0) (o1 : f1.offset = 1) (t0 : P.underlying f0.type = some (.int .i64)) (c0 : P.cellsOf f0.type = 1) (t1 : f1.type = tH) (tH' : HashTy P tH e8) (hc : P.cellsOf ty = 1)
    (h : ∃ y, DataW.trod enc P w base spare held n ty ((cs.toList.drop o).take (P.cellsOf ty)) = some y) : ∃ v l, cs[o]? = some v ∧ RdS w v l ∧ ∀ x ∈ l, (Lit.int .i64 x.1).wf = true := by
  obtain ⟨y, h⟩ := h
  rw [hc] at h
  rcases Go.Deep.open_slice hT h with ⟨hcs, _⟩ | ⟨a, len, cap, m, n', D, Pl, hcs, _, hl, hm, hmm, _, hx⟩
  · exact ⟨_, [], take_one hcs, ⟨none, 0, rfl, by simp, by unfold maxLen; omega, fun h0 => absurd h0 (by simp)⟩, by simp⟩
  · have hlm : len ≤ m := by rw [hmm]; split <;> omega
    have each : ∀ i, i < len → ∃ x : Int × Hs, (w.cell? (a.add (i * 33)) = some (.int .i64 x.1) ∧ ∀ j, j < 32 → w.cell? (a.add (i * 33 + 1 + j)) = some (bF x.2 j)) ∧ (Lit.int .i64 x.1).wf = true := fun i hi => by
      obtain ⟨cs', h1, h2⟩ := hx i (by omega)
      rw [ce] at h1
      obtain ⟨_, hlen, hcell⟩ := World.cells?_some h1
      obtain ⟨xs, k, _, _, _, hxl, hel⟩ := DataW.trod_struct he h2
      have fld : ∀ (j : Nat) (f : Field), #[f0, f1][j]? = some f → ∃ y, DataW.trod enc P w base spare held k f.type ((cs'.toArray.toList.drop f.offset).take (P.cellsOf f.type)) = some y := fun j f hj => by
        have hlt : j < xs.length := by rw [hxl]; exact (Array.getElem?_eq_some_iff.1 hj).1
        exact ⟨xs[j], by rw [← List.getElem?_eq_getElem hlt]; simpa using hel j f hj⟩
      obtain ⟨z0, e0, w0⟩ := field_int t0 c0 (fld 0 f0 rfl)
      have f1' := fld 1 f1 rfl
      rw [t1] at f1'
      obtain ⟨d, hd⟩ := field_hash tH'.arr tH'.u8 tH'.ce tH'.c8 f1'
      rw [o0] at e0
      rw [o1] at hd
      refine ⟨(z0, d), ⟨?_, fun j hj => ?_⟩, w0⟩
      · have c := hcell 0 (by omega)
        rw [Go.Deep.add_add, Nat.add_zero] at c
        rw [c]; simpa using e0
      · have c := hcell (1 + j) (by omega)
        rw [Go.Deep.add_add] at c
        rw [Nat.add_assoc, c]
        have := hd j hj
        simpa [bF] using this
    obtain ⟨q, hq⟩ := Go.Deep.choose_lt each
    have hlen : ((List.range len).map q).length = len := by simp
    refine ⟨_, (List.range len).map q, take_one hcs, ⟨some a, cap, by rw [hlen], by rw [hlen]; exact hl, hm, fun h0 => ?_⟩, fun x hx' => ?_⟩
    · rw [hlen] at h0
      obtain ⟨b, off, spot⟩ := a
      have hspot : spot = none := by simpa [Addr.add] using World.cell?_spot (hq 0 h0).1.1
      subst hspot
      refine ⟨b, off, rfl, fun i x hx' j hj => ?_⟩
      have hi : i < len := by have := (List.getElem?_eq_some_iff.1 hx').1; simpa using this
      simp [hi] at hx'
      subst hx'
      obtain ⟨h1, h2⟩ := (hq i hi).1
      rw [Go.WideShapes.add_plain] at h1
      unfold sigF
      by_cases h0 : j = 0
      · subst h0; rw [if_pos rfl]; exact h1
      · rw [if_neg h0]
        have := h2 (j - 1) (by omega)
        rw [show i * 33 + 1 + (j - 1) = i * 33 + j by omega] at this
        rwa [Go.WideShapes.add_plain, ← Nat.add_assoc] at this
    · obtain ⟨i, hi, rfl⟩ := List.mem_map.1 hx'
      exact (hq i (by simpa using hi)).2
end
/-- The cells of keys. -/
def keyF (pv wv : Value) (need : Int) (i : Nat) : Value := if i = 0 then pv else if i = 1 then wv else .int .i64 need
/-- A value that is keys: participants' secrets, witnesses', how many must sign. -/
def KeysV (w : World) (v : Value) (ps ws : List Hs) (need : Int) : Prop := ∃ pv wv, v = .agg (rowA 3 (keyF pv wv need)) ∧ RdH w pv ps ∧ RdH w wv ws
theorem NewT.keysV {w w' : World} (h : NewT w w') {v : Value} {ps ws : List Hs} {need : Int} (hr : KeysV w v ps ws need) : KeysV w' v ps ws need := by
  obtain ⟨pv, wv, h1, h2, h3⟩ := hr
  exact ⟨pv, wv, h1, h.hs h2, h.hs h3⟩
/-- The cells of a checkpoint. -/
def ptF (size : Int) (root : Hs) (sv : Value) (i : Nat) : Value := if i = 0 then .int .i64 size else if i < 33 then bF root (i - 1) else sv
/-- A value that is a checkpoint: its size, root, marks. -/
def PointV (w : World) (v : Value) (size : Int) (root : Hs) (l : List (Int × Hs)) : Prop := ∃ sv, v = .agg (rowA 34 (ptF size root sv)) ∧ RdS w sv l
theorem NewT.pointV {w w' : World} (h : NewT w w') {v : Value} {size : Int} {root : Hs} {l : List (Int × Hs)} (hr : PointV w v size root l) : PointV w' v size root l := by
  obtain ⟨sv, h1, h2⟩ := hr
  exact ⟨sv, h1, h.sigs h2⟩
/-- What a program's types must say of keys. -/
structure KeysTy (P : Program) (t tH e : TypeId) (f0 f1 f2 : Field) : Prop where
  st : P.underlying t = some (.struct #[f0, f1, f2])
  cells : P.cellsOf t = 3
  o0 : f0.offset = 0
  o1 : f1.offset = 1
  o2 : f2.offset = 2
  t0 : P.underlying f0.type = some (.slice tH)
  t1 : P.underlying f1.type = some (.slice tH)
  t2 : P.underlying f2.type = some (.int .i64)
  c0 : P.cellsOf f0.type = 1
  c1 : P.cellsOf f1.type = 1
  c2 : P.cellsOf f2.type = 1
  hash : HashTy P tH e
/-- What a program's types must say of a checkpoint. -/
structure PointTy (P : Program) (t tS tH e : TypeId) (f0 f1 f2 g0 g1 : Field) : Prop where
  st : P.underlying t = some (.struct #[f0, f1, f2])
  cells : P.cellsOf t = 34
  o0 : f0.offset = 0
  o1 : f1.offset = 1
  o2 : f2.offset = 33
  t0 : P.underlying f0.type = some (.int .i64)
  t1 : f1.type = tH
  t2 : P.underlying f2.type = some (.slice tS)
  c0 : P.cellsOf f0.type = 1
  c2 : P.cellsOf f2.type = 1
  sig : P.underlying tS = some (.struct #[g0, g1])
  cS : P.cellsOf tS = 33
  p0 : g0.offset = 0
  p1 : g1.offset = 1
  s0 : P.underlying g0.type = some (.int .i64)
  d0 : P.cellsOf g0.type = 1
  s1 : g1.type = tH
  hash : HashTy P tH e
section
variable {H : Type} {enc : TypeId × Value → H} {P : Program} {w : World} {base : Nat} {spare : Nat → Bool} {held : Bool} {r : Reach} {b0 : Nat} {t tS tH e : TypeId} {v : Value} {d : DataW H} {p : List MemPlace} {f0 f1 f2 g0 g1 : Field}
theorem open_keys (K : KeysTy P t tH e f0 f1 f2) (hv : Value.okWide P w r b0 t v) (h : DataW.Trod enc P w base spare held t v d p) : ∃ ps ws need, KeysV w v ps ws need ∧ (Lit.int .i64 need).wf = true := by
  obtain ⟨cs, n, rfl, hsz, hf⟩ := open_fields K.st hv h
  rw [K.cells] at hsz
  have q0 := hf 0 f0 rfl
  have q1 := hf 1 f1 rfl
  have q2 := hf 2 f2 rfl
  rw [K.o0] at q0
  rw [K.o1] at q1
  rw [K.o2] at q2
  obtain ⟨pv, ps, e0, r0⟩ := field_hashes K.t0 K.hash K.c0 q0
  obtain ⟨wv, ws, e1, r1⟩ := field_hashes K.t1 K.hash K.c1 q1
  obtain ⟨z, e2, wz⟩ := field_int K.t2 K.c2 q2
  refine ⟨ps, ws, z, ⟨pv, wv, ?_, r0, r1⟩, wz⟩
  congr 1
  apply Array.ext_getElem?
  intro i
  by_cases hi : i < 3
  · rw [rowA_at _ _ _ hi]
    have : i = 0 ∨ i = 1 ∨ i = 2 := by omega
    rcases this with rfl | rfl | rfl <;> simpa [keyF]
  · rw [Array.getElem?_eq_none (by omega), Array.getElem?_eq_none (by rw [rowA_size]; omega)]
theorem open_point (K : PointTy P t tS tH e f0 f1 f2 g0 g1) (hv : Value.okWide P w r b0 t v) (h : DataW.Trod enc P w base spare held t v d p) : ∃ size root l, PointV w v size root l ∧ (Lit.int .i64 size).wf = true ∧ ∀ x ∈ l, (Lit.int .i64 x.1).wf = true := by
  obtain ⟨cs, n, rfl, hsz, hf⟩ := open_fields K.st hv h
  rw [K.cells] at hsz
  have q0 := hf 0 f0 rfl
  have q1 := hf 1 f1 rfl
  have q2 := hf 2 f2 rfl
  rw [K.o0] at q0
  rw [K.o1, K.t1] at q1
  rw [K.o2] at q2
  obtain ⟨z, e0, wz⟩ := field_int K.t0 K.c0 q0
  obtain ⟨root, hr⟩ := field_hash K.hash.arr K.hash.u8 K.hash.ce K.hash.c8 q1
  obtain ⟨sv, l, e2, rs, wl⟩ := field_sigs K.t2 K.sig K.cS K.p0 K.p1 K.s0 K.d0 K.s1 K.hash K.c2 q2
  refine ⟨z, root, l, ⟨sv, ?_, rs⟩, wz, wl⟩
  congr 1
  apply Array.ext_getElem?
  intro i
  by_cases hi : i < 34
  · rw [rowA_at _ _ _ hi]
    unfold ptF
    by_cases h0 : i = 0
    · subst h0; rw [if_pos rfl]; exact e0
    rw [if_neg h0]
    by_cases h33 : i < 33
    · rw [if_pos h33]
      have := hr (i - 1) (by omega)
      rw [show 1 + (i - 1) = i by omega] at this
      exact this
    · rw [if_neg h33]
      obtain rfl : i = 33 := by omega
      exact e2
  · rw [Array.getElem?_eq_none (by omega), Array.getElem?_eq_none (by rw [rowA_size]; omega)]
end
end Go.Proofs.YtchpmdcacpjojaaDoor
/- The laws' arguments, opened: keys and checkpoints by value. -/
namespace Go.Proofs.YtchpmdcacpjojaaDoor
open Go Go.ChangeShapes Go.WideShapes Go.ChangeAt Go.WideMaps Go.WideElems Go.RowKit
set_option maxRecDepth 8000
set_option linter.all false
theorem hashTy : HashTy Tryd.prog 32 5 := ⟨Tryd.underlying32, Tryd.underlying5, by kernel_rfl, by kernel_rfl⟩
theorem keysTy : ∃ f0 f1 f2, KeysTy Tryd.prog 24 32 5 f0 f1 f2 :=
  ⟨_, _, _, Tryd.underlying24, by kernel_rfl, rfl, rfl, rfl, Tryd.underlying22, Tryd.underlying22, Tryd.underlying3, by kernel_rfl, by kernel_rfl, by kernel_rfl, hashTy⟩
section
variable {H : Type} {enc : TypeId × Value → H} {w : World} {base : Nat} {spare : Nat → Bool} {held : Bool} {r : Reach} {b0 : Nat} {v : Value} {d : DataW H} {p : List MemPlace}
theorem open_keysA (hv : Value.okWide Tryd.prog w r b0 24 v) (h : DataW.Trod enc Tryd.prog w base spare held 24 v d p) : ∃ ps ws need, KeysV w v ps ws need ∧ (Lit.int .i64 need).wf = true := by
  obtain ⟨_, _, _, K⟩ := keysTy
  exact open_keys K hv h
end
end Go.Proofs.YtchpmdcacpjojaaDoor
/- Keys, receipts and checkpoints, on lists: which keys may be, who has a key, what a tag is of, which marks are good. No program is named here; kf, tg and pf are whatever functions make keys' tags, texts' tags and checkpoints' texts. -/
namespace Go.Proofs.YtchpmdcacpjojaaDoor
open Go
set_option maxRecDepth 8000
set_option linter.all false

def z32 : Hs := fun _ => 0
/-- May keys be? -/
def mayB (ps ws : List Hs) (need : Int) : Bool := (inR ps.length 1 4 && inR ws.length 1 4) && inR need 1 ws.length
/-- Is there a participant's key of an epoch? -/
def hasB (ps ws : List Hs) (need part epoch : Int) : Bool := (mayB ps ws need && inR part 0 (ps.length - 1)) && inR epoch 0 400
def bI (b : Bool) : Int := if b = true then 1 else 0
theorem mayB_iff (ps ws : List Hs) (need : Int) : mayB ps ws need = true ↔ (1 ≤ ps.length ∧ ps.length ≤ 4) ∧ (1 ≤ ws.length ∧ ws.length ≤ 4) ∧ 1 ≤ need ∧ need ≤ ws.length := by
  simp only [mayB, Bool.and_eq_true, inR_iff]; omega
theorem hasB_iff (ps ws : List Hs) (need part epoch : Int) : hasB ps ws need part epoch = true ↔ mayB ps ws need = true ∧ (0 ≤ part ∧ part < ps.length) ∧ 0 ≤ epoch ∧ epoch ≤ 400 := by
  simp only [hasB, Bool.and_eq_true, inR_iff]
  constructor
  · rintro ⟨⟨h, h1⟩, h2⟩; exact ⟨h, by omega, h2⟩
  · rintro ⟨h, h1, h2⟩; exact ⟨⟨h, by omega⟩, h2⟩
theorem hasB_at {ps ws : List Hs} {need part epoch : Int} (h : hasB ps ws need part epoch = true) : ∃ i : Nat, part = (i : Int) ∧ i < ps.length ∧ ps[i]? = some (ps.getD part.toNat z32) := by
  obtain ⟨_, ⟨h0, h1⟩, _⟩ := (hasB_iff _ _ _ _ _).1 h
  refine ⟨part.toNat, by omega, by omega, ?_⟩
  rw [List.getD, List.getElem?_eq_getElem (show part.toNat < ps.length by omega)]; rfl
section
variable (kf : Hs → List Int → Hs) (tg : Hs → Hs → Hs) (pf : Int → Hs → Hs)
/-- A participant's key. -/
def partH (ps ws : List Hs) (need part epoch : Int) : Hs := if hasB ps ws need part epoch = true then kf (ps.getD part.toNat z32) [1, epoch] else z32
/-- A receipt's tag. -/
def recpH (ps ws : List Hs) (need : Int) (x : Rc) : Hs := if (x.kind == 3 && hasB ps ws need x.part x.epoch) = true then kf (partH kf ps ws need x.part x.epoch) [2, x.saga, x.step, bI x.back, bI x.good] else z32
/-- Is a receipt's tag right? -/
def holdsB (ps ws : List Hs) (need : Int) (x : Rc) : Bool := ((x.kind == 3 && rightB x) && hasB ps ws need x.part x.epoch) && eqH (recpH kf ps ws need x) x.tag
/-- May a witness sign? -/
def mayS (ps ws : List Hs) (need wit size : Int) : Bool := (mayB ps ws need && inR wit 0 (ws.length - 1)) && inR size 0 400
/-- A witness's tag of a checkpoint. -/
def sgH (ws : List Hs) (size : Int) (root : Hs) (i : Nat) : Hs := tg (ws.getD i z32) (pf size root)
def signH (ps ws : List Hs) (need wit size : Int) (root : Hs) : Hs := if mayS ps ws need wit size = true then sgH tg pf ws size root wit.toNat else z32
/-- Is a mark good, behind others? -/
def okAt (n : Nat) (sg : Nat → Hs) (seen : List (Int × Hs)) (s : Int × Hs) : Bool := (inR s.1 0 ((n : Int) - 1) && !(seen.any fun q => q.1 == s.1)) && eqH (sg s.1.toNat) s.2
/-- Are the first k marks good? -/
def okTo (n : Nat) (sg : Nat → Hs) (l : List (Int × Hs)) : Nat → Bool
  | 0 => true
  | k + 1 => okTo n sg l k && (match l[k]? with | some s => okAt n sg (l.take k) s | none => true)
/-- What a check answers. -/
def checkI (ps ws : List Hs) (need size : Int) (sg : Nat → Hs) (l : List (Int × Hs)) : Int :=
  if (mayB ps ws need && inR size 0 400) = true then (if (okTo ws.length sg l l.length && decide (need ≤ l.length)) = true then 0 else 8) else 1
end
theorem mayS_iff (ps ws : List Hs) (need wit size : Int) : mayS ps ws need wit size = true ↔ mayB ps ws need = true ∧ (0 ≤ wit ∧ wit < ws.length) ∧ 0 ≤ size ∧ size ≤ 400 := by
  simp only [mayS, Bool.and_eq_true, inR_iff]
  constructor
  · rintro ⟨⟨h, h1⟩, h2⟩; exact ⟨h, by omega, h2⟩
  · rintro ⟨h, h1, h2⟩; exact ⟨⟨h, by omega⟩, h2⟩
theorem or_not {a b c : Bool} (h : (!a || !b) = c) : (a && b) = !c := by subst h; cases a <;> cases b <;> rfl
theorem or_not3 {a b c d : Bool} (h : ((!a || !b) || !c) = d) : ((a && b) && c) = !d := by subst h; cases a <;> cases b <;> cases c <;> rfl
theorem okTo_le {n : Nat} {sg : Nat → Hs} {l : List (Int × Hs)} {k m : Nat} (h : okTo n sg l m = true) (hk : k ≤ m) : okTo n sg l k = true := by
  induction m with
  | zero => obtain rfl : k = 0 := by omega
            rfl
  | succ m ih =>
    rcases Nat.lt_or_ge m k with h1 | h1
    · obtain rfl : k = m + 1 := by omega
      exact h
    · exact ih (by rw [okTo, Bool.and_eq_true] at h; exact h.1) h1
theorem okTo_next {n : Nat} {sg : Nat → Hs} {l : List (Int × Hs)} {k : Nat} {s : Int × Hs} (hs : l[k]? = some s) (h : okTo n sg l k = true) : okTo n sg l (k + 1) = okAt n sg (l.take k) s := by
  rw [okTo, h, hs, Bool.true_and]
/-- A mark that isn't good spoils the list. -/
theorem okTo_bad {n : Nat} {sg : Nat → Hs} {l : List (Int × Hs)} {k : Nat} {s : Int × Hs} (hs : l[k]? = some s) (h : okAt n sg (l.take k) s = false) : okTo n sg l l.length = false := by
  cases hq : okTo n sg l l.length with
  | false => rfl
  | true =>
    have hk : k < l.length := (List.getElem?_eq_some_iff.1 hs).1
    have := okTo_le (k := k + 1) hq (by omega)
    rw [okTo, hs] at this
    have h2 := (Bool.and_eq_true _ _).mp this
    rw [show (match some s with | some s => okAt n sg (l.take k) s | none => true) = okAt n sg (l.take k) s from rfl, h] at h2
    cases h2.2
/-- Marks of witnesses that there are, each once, with their tags, are good. -/
theorem okTo_good {n : Nat} {sg : Nat → Hs} {l : List (Int × Hs)} (h1 : ∀ s ∈ l, inR s.1 0 ((n : Int) - 1) = true ∧ eqH (sg s.1.toNat) s.2 = true) (h2 : (l.map (·.1)).Nodup) : ∀ k, okTo n sg l k = true
  | 0 => rfl
  | k + 1 => by
    rw [okTo, okTo_good h1 h2 k, Bool.true_and]
    cases hs : l[k]? with
    | none => rfl
    | some s =>
      obtain ⟨hk, hsk⟩ := List.getElem?_eq_some_iff.1 hs
      obtain ⟨a, b⟩ := h1 s (by rw [← hsk]; exact List.getElem_mem hk)
      have h3 : ((l.take k).any fun q => q.1 == s.1) = false := by
        rw [List.any_eq_false]
        intro q hq he
        rw [beq_iff_eq] at he
        obtain ⟨j, hj, hjq⟩ := List.getElem_of_mem hq
        rw [List.length_take] at hj
        rw [List.getElem_take] at hjq
        have hp := (List.nodup_iff_pairwise_ne.1 h2)
        rw [List.pairwise_iff_getElem] at hp
        refine hp j k (by simp; omega) (by simpa using hk) (by omega) ?_
        rw [List.getElem_map, List.getElem_map, hjq, hsk, he]
      show okAt n sg (l.take k) s = true
      unfold okAt
      rw [a, b, h3]; rfl
section
variable {ps ws : List Hs} {need size : Int} {sg : Nat → Hs} {l : List (Int × Hs)}
theorem checkI_arg (h : (mayB ps ws need && inR size 0 400) = false) : checkI ps ws need size sg l = 1 := by unfold checkI; rw [h]; rfl
theorem checkI_bad (h : (mayB ps ws need && inR size 0 400) = true) (h2 : okTo ws.length sg l l.length = false) : checkI ps ws need size sg l = 8 := by unfold checkI; rw [h, h2]; rfl
theorem checkI_few (h : (mayB ps ws need && inR size 0 400) = true) (h2 : decide ((l.length : Int) < need) = true) : checkI ps ws need size sg l = 8 := by
  unfold checkI
  rw [h, if_pos rfl, if_neg]
  rw [decide_eq_true_iff] at h2
  rw [Bool.and_eq_true, decide_eq_true_iff]
  rintro ⟨_, h3⟩
  omega
theorem checkI_ok (h : (mayB ps ws need && inR size 0 400) = true) (h1 : okTo ws.length sg l l.length = true) (h2 : decide ((l.length : Int) < need) = false) : checkI ps ws need size sg l = 0 := by
  unfold checkI
  rw [decide_eq_false_iff_not] at h2
  rw [h, if_pos rfl, h1, Bool.true_and, decide_eq_true (by omega), if_pos rfl]
end
section
variable {kf : Hs → List Int → Hs} {tg : Hs → Hs → Hs} {pf : Int → Hs → Hs} {ps ws : List Hs} {need : Int}
theorem none_has (h : mayB ps ws need = false) (i e : Int) : hasB ps ws need i e = false := by unfold hasB; rw [h]; rfl
theorem none_part (h : mayB ps ws need = false) (i e : Int) : eqH (partH kf ps ws need i e) z32 = true := by unfold partH; rw [none_has h]; exact eqH_same _
theorem none_recp (h : mayB ps ws need = false) (x : Rc) : eqH (recpH kf ps ws need x) z32 = true := by unfold recpH; rw [none_has h, Bool.and_false]; exact eqH_same _
theorem none_holds (h : mayB ps ws need = false) (x : Rc) : holdsB kf ps ws need x = false := by unfold holdsB; rw [none_has h, Bool.and_false]; rfl
theorem none_sign (h : mayB ps ws need = false) (i size : Int) (root : Hs) : eqH (signH tg pf ps ws need i size root) z32 = true := by unfold signH mayS; rw [h]; exact eqH_same _
theorem none_check (h : mayB ps ws need = false) (size : Int) (sg : Nat → Hs) (l : List (Int × Hs)) : checkI ps ws need size sg l = 1 := checkI_arg (by rw [h]; rfl)
end
end Go.Proofs.YtchpmdcacpjojaaDoor
/- Records, on lists: what Right looks at (a range, and what a kind has alone), which records are the same; that these come to R0's words. -/
namespace Go.Proofs.YtchpmdcacpjojaaDoor
open Go
set_option maxRecDepth 8000
set_option linter.all false

def stepsOk (l : List (Int × Int)) : Bool := inR l.length 1 6 && l.all stepOk
def inRg (x : Rc) : Bool :=
  if x.kind = 1 then (inR x.saga 0 11 && stepsOk x.steps) && decide ((x.data.length : Int) ≤ 60)
  else if x.kind = 3 then (!((!inR x.part 0 3) || !inR x.epoch 0 400)) && (((inR x.saga 0 11 && inR x.seq 1 400) && inR x.step 0 5) && inR x.tr 1 9)
  else if x.kind = 2 ∨ x.kind = 4 then ((inR x.saga 0 11 && inR x.seq 1 400) && inR x.step 0 5) && inR x.tr 1 9
  else if x.kind = 5 then (inR x.saga 0 11 && inR x.seq 1 400) && inR x.nd 2 4
  else if x.kind = 6 then inR x.part 0 3 && inR x.epoch 1 400
  else false
/-- The record with nothing. -/
def zR : Rc := ⟨0, 0, 0, 0, 0, false, false, 0, 0, 0, fun _ => 0, [], [], fun _ => 0, false, fun _ => 0⟩
def onlyR (x : Rc) : Rc :=
  if x.kind = 1 then (if x.gone then { zR with kind := x.kind, saga := x.saga, steps := x.steps, gone := x.gone, com := x.com } else { zR with kind := x.kind, saga := x.saga, steps := x.steps, gone := x.gone, data := x.data, salt := x.salt })
  else if x.kind = 3 then { zR with kind := x.kind, good := x.good, part := x.part, epoch := x.epoch, tag := x.tag, saga := x.saga, seq := x.seq, step := x.step, tr := x.tr, back := x.back }
  else if x.kind = 2 ∨ x.kind = 4 then { zR with kind := x.kind, saga := x.saga, seq := x.seq, step := x.step, tr := x.tr, back := x.back }
  else if x.kind = 5 then { zR with kind := x.kind, saga := x.saga, seq := x.seq, nd := x.nd }
  else if x.kind = 6 then { zR with kind := x.kind, part := x.part, epoch := x.epoch }
  else { zR with kind := x.kind }
/-- The same all through, in Same's order. -/
def sameB (x y : Rc) : Bool :=
  ((((((((((((((((x.kind == y.kind) && (x.saga == y.saga)) && (x.seq == y.seq)) && (x.step == y.step)) && (x.tr == y.tr)) && (x.back == y.back)) && (x.good == y.good)) && (x.nd == y.nd)) && (x.part == y.part)) && (x.epoch == y.epoch)) && eqH x.tag y.tag) && decide (x.steps = y.steps)) && decide (x.data = y.data)) && eqH x.salt y.salt) && (x.gone == y.gone)) && eqH x.com y.com)
theorem eqH_hL (d e : Nat → UInt8) : eqH d e = true ↔ hL d = hL e := by
  rw [eqH_iff]
  unfold hL
  constructor
  · intro h
    exact List.map_congr_left fun i hi => h i (List.mem_range.1 hi)
  · intro h i hi
    have := congrArg (·[i]?) h
    simpa [hi] using this
theorem sameB_iff (x y : Rc) : sameB x y = true ↔ SameR x y := by
  unfold sameB
  simp only [Bool.and_eq_true, beq_iff_eq, decide_eq_true_eq, eqH_hL]
  constructor
  · rintro ⟨⟨⟨⟨⟨⟨⟨⟨⟨⟨⟨⟨⟨⟨⟨h1, h2⟩, h3⟩, h4⟩, h5⟩, h6⟩, h7⟩, h8⟩, h9⟩, h10⟩, h11⟩, h12⟩, h13⟩, h14⟩, h15⟩, h16⟩
    exact ⟨h1, h2, h3, h4, h5, h6, h7, h8, h9, h10, h11, h12, h13, h14, h15, h16⟩
  · rintro ⟨h1, h2, h3, h4, h5, h6, h7, h8, h9, h10, h11, h12, h13, h14, h15, h16⟩
    exact ⟨⟨⟨⟨⟨⟨⟨⟨⟨⟨⟨⟨⟨⟨⟨h1, h2⟩, h3⟩, h4⟩, h5⟩, h6⟩, h7⟩, h8⟩, h9⟩, h10⟩, h11⟩, h12⟩, h13⟩, h14⟩, h15⟩, h16⟩
theorem hZ_iff (d : Nat → UInt8) : hZ d = true ↔ hL d = hL fun _ => 0 := by
  constructor
  · exact hZ_hL d
  · intro h
    rw [← eqH_hL, eqH_iff] at h
    unfold hZ
    rw [List.all_eq_true]
    intro i hi
    simpa using h i (List.mem_range.1 hi)
theorem right_eq (x : Rc) : (inRg x && sameB x (onlyR x)) = rightB x := by
  rw [Bool.eq_iff_iff, Bool.and_eq_true, sameB_iff]
  unfold inRg onlyR rightB
  by_cases k1 : x.kind = 1
  · simp only [if_pos k1]
    cases hg : x.gone
    · simp only [Bool.false_eq_true, if_false]
      constructor
      · rintro ⟨h, s⟩
        simp only [Bool.and_eq_true, stepsOk, decide_eq_true_eq, noCall, noReceipt, beq_iff_eq, Bool.not_eq_true'] at h ⊢
        exact ⟨⟨⟨⟨⟨⟨⟨⟨⟨⟨h.1.1, s.seq⟩, ⟨s.step, s.tr⟩, s.back⟩, s.good, (hZ_iff _).2 s.tag⟩, s.nd⟩, s.part⟩, s.epoch⟩, h.1.2.1⟩, h.1.2.2⟩, by omega⟩, (hZ_iff _).2 s.com⟩
      · intro h
        simp only [Bool.and_eq_true, stepsOk, decide_eq_true_eq, noCall, noReceipt, beq_iff_eq, Bool.not_eq_true'] at h ⊢
        obtain ⟨⟨⟨⟨⟨⟨⟨⟨⟨⟨a1, a2⟩, ⟨a3, a4⟩, a5⟩, a6, a7⟩, a8⟩, a9⟩, a10⟩, a11⟩, a12⟩, a13⟩, a14⟩ := h
        exact ⟨⟨⟨a1, a11, a12⟩, by omega⟩, rfl, rfl, a2, a3, a4, a5, a6, a8, a9, a10, (hZ_iff _).1 a7, rfl, rfl, rfl, hg, (hZ_iff _).1 a14⟩
    · simp only [if_true]
      constructor
      · rintro ⟨h, s⟩
        simp only [Bool.and_eq_true, stepsOk, decide_eq_true_eq, noCall, noReceipt, beq_iff_eq, Bool.not_eq_true', List.isEmpty_iff] at h ⊢
        exact ⟨⟨⟨⟨⟨⟨⟨⟨⟨⟨h.1.1, s.seq⟩, ⟨s.step, s.tr⟩, s.back⟩, s.good, (hZ_iff _).2 s.tag⟩, s.nd⟩, s.part⟩, s.epoch⟩, h.1.2.1⟩, h.1.2.2⟩, by omega⟩, s.data, (hZ_iff _).2 s.salt⟩
      · intro h
        simp only [Bool.and_eq_true, stepsOk, decide_eq_true_eq, noCall, noReceipt, beq_iff_eq, Bool.not_eq_true', List.isEmpty_iff] at h ⊢
        obtain ⟨⟨⟨⟨⟨⟨⟨⟨⟨⟨a1, a2⟩, ⟨a3, a4⟩, a5⟩, a6, a7⟩, a8⟩, a9⟩, a10⟩, a11⟩, a12⟩, a13⟩, a14, a15⟩ := h
        exact ⟨⟨⟨a1, a11, a12⟩, by omega⟩, rfl, rfl, a2, a3, a4, a5, a6, a8, a9, a10, (hZ_iff _).1 a7, rfl, a14, (hZ_iff _).1 a15, hg, rfl⟩
  simp only [if_neg k1]
  by_cases k3 : x.kind = 3
  · simp only [if_pos k3, if_neg (show ¬ (x.kind = 2 ∨ x.kind = 4) by omega)]
    constructor
    · rintro ⟨h, s⟩
      simp only [Bool.and_eq_true, isCall, noBegin, beq_iff_eq, Bool.not_eq_true', Bool.or_eq_false_iff, Bool.not_eq_false', List.isEmpty_iff] at h ⊢
      exact ⟨⟨⟨⟨⟨h.2.1.1.1, ⟨h.2.1.1.2, h.2.1.2⟩, h.2.2⟩, s.nd⟩, h.1.1⟩, h.1.2⟩, ⟨⟨⟨s.steps, s.data⟩, (hZ_iff _).2 s.salt⟩, s.gone⟩, (hZ_iff _).2 s.com⟩
    · intro h
      simp only [Bool.and_eq_true, isCall, noBegin, beq_iff_eq, Bool.not_eq_true', Bool.or_eq_false_iff, Bool.not_eq_false', List.isEmpty_iff] at h ⊢
      obtain ⟨⟨⟨⟨⟨a1, ⟨a2, a3⟩, a4⟩, a7⟩, a8⟩, a9⟩, ⟨⟨⟨a10, a11⟩, a12⟩, a13⟩, a14⟩ := h
      exact ⟨⟨⟨a8, a9⟩, ⟨⟨a1, a2⟩, a3⟩, a4⟩, rfl, rfl, rfl, rfl, rfl, rfl, rfl, a7, rfl, rfl, rfl, a10, a11, (hZ_iff _).1 a12, a13, (hZ_iff _).1 a14⟩
  simp only [if_neg k3]
  by_cases k2 : x.kind = 2 ∨ x.kind = 4
  · simp only [if_pos k2]
    constructor
    · rintro ⟨h, s⟩
      simp only [Bool.and_eq_true, isCall, noReceipt, noBegin, beq_iff_eq, Bool.not_eq_true', List.isEmpty_iff] at h ⊢
      exact ⟨⟨⟨⟨⟨⟨h.1.1.1, ⟨h.1.1.2, h.1.2⟩, h.2⟩, s.good, (hZ_iff _).2 s.tag⟩, s.nd⟩, s.part⟩, s.epoch⟩, ⟨⟨⟨s.steps, s.data⟩, (hZ_iff _).2 s.salt⟩, s.gone⟩, (hZ_iff _).2 s.com⟩
    · intro h
      simp only [Bool.and_eq_true, isCall, noReceipt, noBegin, beq_iff_eq, Bool.not_eq_true', List.isEmpty_iff] at h ⊢
      obtain ⟨⟨⟨⟨⟨⟨a1, ⟨a2, a3⟩, a4⟩, a5, a6⟩, a7⟩, a8⟩, a9⟩, ⟨⟨⟨a10, a11⟩, a12⟩, a13⟩, a14⟩ := h
      exact ⟨⟨⟨⟨a1, a2⟩, a3⟩, a4⟩, rfl, rfl, rfl, rfl, rfl, rfl, a5, a7, a8, a9, (hZ_iff _).1 a6, a10, a11, (hZ_iff _).1 a12, a13, (hZ_iff _).1 a14⟩
  simp only [if_neg k2]
  by_cases k5 : x.kind = 5
  · simp only [if_pos k5]
    constructor
    · rintro ⟨h, s⟩
      simp only [Bool.and_eq_true, noCall, noReceipt, noBegin, beq_iff_eq, Bool.not_eq_true', List.isEmpty_iff] at h ⊢
      exact ⟨⟨⟨⟨⟨⟨⟨h.1.1, h.1.2⟩, ⟨s.step, s.tr⟩, s.back⟩, s.good, (hZ_iff _).2 s.tag⟩, h.2⟩, s.part⟩, s.epoch⟩, ⟨⟨⟨s.steps, s.data⟩, (hZ_iff _).2 s.salt⟩, s.gone⟩, (hZ_iff _).2 s.com⟩
    · intro h
      simp only [Bool.and_eq_true, noCall, noReceipt, noBegin, beq_iff_eq, Bool.not_eq_true', List.isEmpty_iff] at h ⊢
      obtain ⟨⟨⟨⟨⟨⟨⟨a1, a2⟩, ⟨a3, a4⟩, a5⟩, a6, a7⟩, a8⟩, a9⟩, aA⟩, ⟨⟨⟨a10, a11⟩, a12⟩, a13⟩, a14⟩ := h
      exact ⟨⟨⟨a1, a2⟩, a8⟩, rfl, rfl, rfl, a3, a4, a5, a6, rfl, a9, aA, (hZ_iff _).1 a7, a10, a11, (hZ_iff _).1 a12, a13, (hZ_iff _).1 a14⟩
  simp only [if_neg k5]
  by_cases k6 : x.kind = 6
  · simp only [if_pos k6]
    constructor
    · rintro ⟨h, s⟩
      simp only [Bool.and_eq_true, noCall, noReceipt, noBegin, beq_iff_eq, Bool.not_eq_true', List.isEmpty_iff] at h ⊢
      exact ⟨⟨⟨⟨⟨⟨⟨s.saga, s.seq⟩, ⟨s.step, s.tr⟩, s.back⟩, s.good, (hZ_iff _).2 s.tag⟩, s.nd⟩, h.1⟩, h.2⟩, ⟨⟨⟨s.steps, s.data⟩, (hZ_iff _).2 s.salt⟩, s.gone⟩, (hZ_iff _).2 s.com⟩
    · intro h
      simp only [Bool.and_eq_true, noCall, noReceipt, noBegin, beq_iff_eq, Bool.not_eq_true', List.isEmpty_iff] at h ⊢
      obtain ⟨⟨⟨⟨⟨⟨⟨a1, a2⟩, ⟨a3, a4⟩, a5⟩, a6, a7⟩, a8⟩, a9⟩, aA⟩, ⟨⟨⟨a10, a11⟩, a12⟩, a13⟩, a14⟩ := h
      exact ⟨⟨a9, aA⟩, rfl, a1, a2, a3, a4, a5, a6, a8, rfl, rfl, (hZ_iff _).1 a7, a10, a11, (hZ_iff _).1 a12, a13, (hZ_iff _).1 a14⟩
  simp only [if_neg k6]
  simp
/-- What a value that is a record says. -/
def svRec (x : Rc) : SV NewT := ⟨fun v w => RecV w v x, fun _ _ _ h hT => hT.recV h⟩
def svPairs (l : List (Int × Int)) : SV NewT := ⟨fun v w => RdP w v l, fun _ _ _ h hT => hT.pairs h⟩
theorem recF_tag (x : Rc) (sv dv : Value) (j : Nat) (h : j < 32) : recF x sv dv (10 + j) = bF x.tag j := by
  unfold recF; rw [if_neg (by omega), if_pos (by omega), Nat.add_sub_cancel_left]
theorem recF_salt (x : Rc) (sv dv : Value) (j : Nat) (h : j < 32) : recF x sv dv (44 + j) = bF x.salt j := by
  unfold recF; rw [if_neg (by omega), if_neg (by omega), if_neg (by omega), if_neg (by omega), if_pos (by omega), Nat.add_sub_cancel_left]
theorem recF_com (x : Rc) (sv dv : Value) (j : Nat) (h : j < 32) : recF x sv dv (77 + j) = bF x.com j := by
  unfold recF; rw [if_neg (by omega), if_neg (by omega), if_neg (by omega), if_neg (by omega), if_neg (by omega), if_neg (by omega), Nat.add_sub_cancel_left]
end Go.Proofs.YtchpmdcacpjojaaDoor
/- Participants, on lists (layer 13): calls, entries, what is answered, what is remembered, the receipts that answers say. No program is named here. -/
namespace Go.Proofs.YtchpmdcacpjojaaDoor
open Go
set_option maxRecDepth 8000
set_option linter.all false
/-- A call, or an answer. -/
structure Cl where
  saga : Int
  step : Int
  tr : Int
  back : Bool
  part : Int
  kind : Int
  ans : Bool
  good : Bool
  ep : Int
  tag : Hs
def zC : Cl := ⟨0, 0, 0, false, 0, 0, false, false, 0, z32⟩
/-- What a participant remembers of a call. -/
structure En where
  saga : Int
  step : Int
  back : Bool
  good : Bool
def isE (s t : Int) (b : Bool) (x : En) : Bool := (x.saga == s && x.step == t) && x.back == b
/-- What an entry says. -/
def hasE (L : List En) (s t : Int) (b : Bool) : Option Bool := (L.find? (isE s t b)).map (·.good)
/-- Is a call its? -/
def itsB (n : Int) (c : Cl) : Bool := ((((!c.ans && c.part == n) && inR c.saga 0 11) && inR c.step 0 5) && inR c.kind 1 3) && inR c.tr 1 9
/-- Was it compensated ahead? -/
def undE (L : List En) (c : Cl) : Bool := !c.back && (hasE L c.saga c.step true).getD false
def goodN (L : List En) (c : Cl) (r : Bool) : Bool := !r && !undE L c
/-- What is answered. -/
def goodE (L : List En) (c : Cl) (r : Bool) : Bool := (hasE L c.saga c.step c.back).getD (goodN L c r)
def askB (c : Cl) : Bool := c.back || c.kind == 3
def putB (L : List En) (c : Cl) (r : Bool) : Bool := (goodN L c r || undE L c) || !askB c
def newE (L : List En) (c : Cl) (r : Bool) : En := ⟨c.saga, c.step, c.back, goodN L c r⟩
/-- What is remembered behind a call that is its. -/
def keepL (L : List En) (c : Cl) (r : Bool) : List En := if (hasE L c.saga c.step c.back).isSome = true then L else if putB L c r = true then L ++ [newE L c r] else L
def takeL (n : Int) (L : List En) (c : Cl) (r : Bool) : List En := if itsB n c = true then keepL L c r else L
/-- The receipt that an answer says. -/
def recC (c : Cl) (seq : Int) : Rc := if c.ans = true then { zR with kind := 3, saga := c.saga, seq := seq, step := c.step, tr := c.tr, back := c.back, good := c.good, part := c.part, epoch := c.ep, tag := c.tag } else zR
section
variable (kf : Hs → List Int → Hs) (ps ws : List Hs) (need : Int)
def sayC (e : Int) (c : Cl) (g : Bool) : Cl := { c with ans := true, good := g, ep := e }
def ansC (e : Int) (c : Cl) (g : Bool) : Cl := { sayC e c g with tag := recpH kf ps ws need (recC (sayC e c g) 0) }
/-- What Take answers. -/
def takeC (n e : Int) (L : List En) (c : Cl) (r : Bool) : Cl := if itsB n c = true then ansC kf ps ws need e c (goodE L c r) else zC
theorem recp_seq (c : Cl) (h : c.ans = true) (s t : Int) (d : Hs) : recpH kf ps ws need (recC { c with tag := d } s) = recpH kf ps ws need (recC c t) := by
  unfold recC
  rw [if_pos h, if_pos h]
  rfl
theorem ans_tag (e : Int) (c : Cl) (g : Bool) (s : Int) : (ansC kf ps ws need e c g).tag = recpH kf ps ws need (recC (ansC kf ps ws need e c g) s) := (recp_seq kf ps ws need (sayC e c g) rfl s 0 _).symm
end
theorem its_iff (n : Int) (c : Cl) : itsB n c = true ↔ c.ans = false ∧ c.part = n ∧ (0 ≤ c.saga ∧ c.saga ≤ 11) ∧ (0 ≤ c.step ∧ c.step ≤ 5) ∧ (1 ≤ c.kind ∧ c.kind ≤ 3) ∧ 1 ≤ c.tr ∧ c.tr ≤ 9 := by
  simp only [itsB, Bool.and_eq_true, inR_iff, Bool.not_eq_true', beq_iff_eq]
  constructor
  · rintro ⟨⟨⟨⟨⟨a, b⟩, c⟩, d⟩, e⟩, f⟩; exact ⟨a, b, c, d, e, f⟩
  · rintro ⟨a, b, c, d, e, f⟩; exact ⟨⟨⟨⟨⟨a, b⟩, c⟩, d⟩, e⟩, f⟩
theorem isE_iff (s t : Int) (b : Bool) (x : En) : isE s t b x = true ↔ x.saga = s ∧ x.step = t ∧ x.back = b := by
  simp only [isE, Bool.and_eq_true, beq_iff_eq]
  exact ⟨fun ⟨⟨a, b⟩, c⟩ => ⟨a, b, c⟩, fun ⟨a, b, c⟩ => ⟨⟨a, b⟩, c⟩⟩
theorem hasE_app (L M : List En) (s t : Int) (b : Bool) : hasE (L ++ M) s t b = (hasE L s t b).or (hasE M s t b) := by
  unfold hasE
  rw [List.find?_append]
  cases L.find? (isE s t b) <;> rfl
theorem hasE_one (x : En) (s t : Int) (b : Bool) : hasE [x] s t b = if isE s t b x = true then some x.good else none := by
  unfold hasE
  rw [List.find?_cons]
  cases isE s t b x <;> rfl
theorem isE_new (L : List En) (c : Cl) (r : Bool) : isE c.saga c.step c.back (newE L c r) = true := (isE_iff _ _ _ _).2 ⟨rfl, rfl, rfl⟩
/-- Each entry is the only one of its deed. -/
def OkE (L : List En) : Prop := ∀ x ∈ L, hasE L x.saga x.step x.back = some x.good
theorem okE_nil : OkE [] := fun x h => by simp at h
theorem okE_keep {L : List En} (h : OkE L) (c : Cl) (r : Bool) : OkE (keepL L c r) := by
  unfold keepL
  split
  · exact h
  next hn =>
    split
    next =>
      intro x hx
      rcases List.mem_append.1 hx with hx | hx
      · rw [hasE_app, h x hx]; rfl
      · obtain rfl : x = newE L c r := by simpa using hx
        have hn' : hasE L c.saga c.step c.back = none := by cases hh : hasE L c.saga c.step c.back with
          | none => rfl
          | some _ => rw [hh] at hn; exact absurd rfl hn
        rw [hasE_app, show hasE L (newE L c r).saga (newE L c r).step (newE L c r).back = none from hn', hasE_one, show isE (newE L c r).saga (newE L c r).step (newE L c r).back (newE L c r) = true from isE_new L c r]
        rfl
    next => exact h
theorem okE_take {L : List En} (h : OkE L) (n : Int) (c : Cl) (r : Bool) : OkE (takeL n L c r) := by
  unfold takeL
  split
  · exact okE_keep h c r
  · exact h
theorem keep_len (L : List En) (c : Cl) (r : Bool) : (keepL L c r).length ≤ L.length + 1 := by
  unfold keepL
  split
  · omega
  · split
    · simp
    · omega
theorem take_len (n : Int) (L : List En) (c : Cl) (r : Bool) : (takeL n L c r).length ≤ L.length + 1 := by
  unfold takeL
  split
  · exact keep_len L c r
  · omega
theorem keep_pre (L : List En) (c : Cl) (r : Bool) : ∃ M, keepL L c r = L ++ M := by
  unfold keepL
  split
  · exact ⟨[], by simp⟩
  · split
    · exact ⟨_, rfl⟩
    · exact ⟨[], by simp⟩
theorem keep_has (L : List En) (c : Cl) (r : Bool) (h : (hasE L c.saga c.step c.back).isSome = true) : keepL L c r = L := by unfold keepL; rw [if_pos h]
/-- Once more, the same is answered, and nothing is added. -/
theorem keep_good {L : List En} {c : Cl} {r : Bool} (h : goodE L c r = true) (hb : (hasE L c.saga c.step c.back).isSome = true ∨ putB L c r = true) : hasE (keepL L c r) c.saga c.step c.back = some true := by
  unfold keepL
  unfold goodE at h
  cases hh : hasE L c.saga c.step c.back with
  | some g =>
    rw [hh] at h
    simp only [Option.isSome_some, if_true, hh]
    simpa using h
  | none =>
    rw [hh] at hb h
    simp only [Option.isSome_none, Bool.false_eq_true, false_or] at hb
    simp only [Option.isSome_none, Bool.false_eq_true, if_false, hb, if_true]
    rw [hasE_app, hh, hasE_one, isE_new]
    simpa [newE] using h
theorem good_put {L : List En} {c : Cl} {r : Bool} (h : goodE L c r = true) : (hasE L c.saga c.step c.back).isSome = true ∨ putB L c r = true := by
  unfold goodE at h
  cases hh : hasE L c.saga c.step c.back with
  | some g => exact .inl rfl
  | none => rw [hh] at h; refine .inr ?_; unfold putB; rw [show goodN L c r = true from h]; rfl
theorem good_stays {L : List En} {c : Cl} {r : Bool} (h : goodE L c r = true) (c' : Cl) (hs : c'.saga = c.saga) (ht : c'.step = c.step) (hb : c'.back = c.back) (r' : Bool) : goodE (keepL L c r) c' r' = true ∧ keepL (keepL L c r) c' r' = keepL L c r := by
  have := keep_good h (good_put h)
  constructor
  · unfold goodE
    rw [hs, ht, hb, this]; rfl
  · exact keep_has _ c' r' (by rw [hs, ht, hb, this]; rfl)
end Go.Proofs.YtchpmdcacpjojaaDoor
/- Package rec's base: a record that lies in memory, its fields, and what the guards of a region make conditional. -/
namespace Go.Proofs.YtchpmdcacpjojaaDoor
open Go Go.RowKit
set_option maxRecDepth 8000
set_option linter.all false

/-- A record in memory: block g holds x. -/
def recOff (k : Nat) : Nat := if k < 12 then (if k = 11 then 42 else k) else if k = 12 then 43 else if k = 13 then 44 else if k = 14 then 76 else 77
theorem info_rec : (Tryd.prog.info? 51).map (·.size) = some 109 := by kernel_rfl
theorem recTy : RecTy Tryd.prog 51 := by
  refine ⟨_, Tryd.underlying51, by kernel_rfl, ?_, ?_, ?_, ?_, ?_⟩
  · intro i hi
    simp only [List.mem_cons, List.not_mem_nil, or_false] at hi
    rcases hi with rfl | rfl | rfl | rfl | rfl | rfl | rfl | rfl <;> exact ⟨_, rfl, rfl, Tryd.underlying3, by kernel_rfl⟩
  · intro i hi
    simp only [List.mem_cons, List.not_mem_nil, or_false] at hi
    rcases hi with rfl | rfl | rfl <;> exact ⟨_, rfl, rfl, Tryd.underlying4, by kernel_rfl⟩
  · intro i hi
    simp only [List.mem_cons, List.not_mem_nil, or_false] at hi
    rcases hi with rfl | rfl | rfl <;> exact ⟨_, _, rfl, rfl, Tryd.underlying32, Tryd.underlying5, by kernel_rfl, by kernel_rfl⟩
  · exact ⟨_, _, _, _, rfl, rfl, Tryd.underlying48, Tryd.underlying88, by kernel_rfl, rfl, rfl, by kernel_rfl, by kernel_rfl, Tryd.underlying3, Tryd.underlying3, by kernel_rfl⟩
  · exact ⟨_, _, rfl, rfl, Tryd.underlying49, Tryd.underlying5, by kernel_rfl, by kernel_rfl⟩
section
variable {a : Act} {w : World} {o : Oper} {K : Act → World → Prop} {Q : Exit → Act → World → Prop} {x : Operand} {g : Nat}
theorem info_steps1 : (Tryd.prog.info? 48).map (·.size) = some (0 + 1) := by kernel_rfl
/-- The place of a record's field. -/
theorem opr_fldR {k : Nat} (hk : k < 16) (ho : o.op = .fieldAddr 51 x k) (hx : a.eval x = .pointer (some ⟨g, 0, none⟩)) (h : K (a.put o.dst (.pointer (some ⟨g, recOff k, none⟩))) w) : o.wp Tryd.prog a w K Q := by
  have hk' : k = 0 ∨ k = 1 ∨ k = 2 ∨ k = 3 ∨ k = 4 ∨ k = 5 ∨ k = 6 ∨ k = 7 ∨ k = 8 ∨ k = 9 ∨ k = 10 ∨ k = 11 ∨ k = 12 ∨ k = 13 ∨ k = 14 ∨ k = 15 := by omega
  rcases hk' with rfl | rfl | rfl | rfl | rfl | rfl | rfl | rfl | rfl | rfl | rfl | rfl | rfl | rfl | rfl | rfl
  all_goals
    first
      | exact opr_fld Tryd.underlying51 rfl info_int ho hx (by rfl) h
      | exact opr_fld Tryd.underlying51 rfl info_bool ho hx (by rfl) h
      | exact opr_fld Tryd.underlying51 rfl info_hash1 ho hx (by rfl) h
      | exact opr_fld Tryd.underlying51 rfl info_steps1 ho hx (by rfl) h
      | exact opr_fld Tryd.underlying51 rfl info_sb1 ho hx (by rfl) h
theorem opr_fldS {k o0 : Nat} (hk : k < 2) (ho : o.op = .fieldAddr 88 x k) (hx : a.eval x = .pointer (some ⟨g, o0, none⟩)) (h : K (a.put o.dst (.pointer (some ⟨g, o0 + k, none⟩))) w) : o.wp Tryd.prog a w K Q := by
  have hk' : k = 0 ∨ k = 1 := by omega
  rcases hk' with rfl | rfl
  all_goals exact opr_fld Tryd.underlying88 rfl info_int ho hx (by rfl) h
variable {F : Nat → Value} {t' : TypeId} {n : Nat} {o0 : Nat} {v : Value}
theorem opr_ldS (hr : w.rowIs g t' n F) (hn : o0 < n) (hv : F o0 = v) (ho : o.op = .load 48 x) (hx : a.eval x = .pointer (some ⟨g, o0, none⟩)) (h : K (a.put o.dst v) w) : o.wp Tryd.prog a w K Q :=
  opr_ld1 Tryd.underlying48 rfl ho hx (by rw [hr.cell hn, hv]) h
theorem opr_ldR (hr : w.rowIs g t' 109 F) (ho : o.op = .load 51 x) (hx : a.eval x = .pointer (some ⟨g, 0, none⟩)) (h : K (a.put o.dst (.agg (rowA 109 F))) w) : o.wp Tryd.prog a w K Q :=
  opr_ldm Tryd.underlying51 rfl info_rec ho hx hr (by omega) (by rw [rowA_congr (g := F) fun i _ => by rw [Nat.zero_add]]; exact h)
end
section
variable {a : Act} {w : World} {o : Oper} {K : Act → World → Prop} {Q : Exit → Act → World → Prop} {x y : Operand} {g : Nat}
theorem opr_len_pairs {l : List (Int × Int)} (ho : o.op = .call { callee := .builtin .len, args := #[x], argTypes := #[48] }) (hx : RdP w (a.eval x) l) (h : K (a.put o.dst (.int .i64 (l.length : Int))) w) : o.wp Tryd.prog a w K Q := by
  obtain ⟨A, c, hv, _⟩ := hx
  exact opr_len ho Tryd.underlying48 hv h
end
end Go.Proofs.YtchpmdcacpjojaaDoor
/- slices.Clone of bytes; no bytes; bytes in a row that is new. -/
namespace Go.Proofs.YtchpmdcacpjojaaDoor
open Go Go.RowKit
set_option maxRecDepth 8000
set_option linter.all false
theorem rdV_nil (W : World) (L : List Nat) : RdV W L (.slice none 0 0) [] := ⟨none, 0, rfl, Nat.le_refl _, by unfold maxLen; omega, fun h => absurd h (by simp)⟩
theorem rdN_own {W w : World} {v : Value} {n : Nat} {l : List UInt8} (h : w.ownsRow W.heap.size 5 1 v n (l.map fun b => .int .u8 (bN b))) (hl : l.length = n) : (svRdN W l).pred v w :=
  fun _ hL => rdV_own h hl hL
theorem svRdN_rd {W w : World} {v : Value} {l : List UInt8} (h : (svRdN W l).pred v w) (L : List Nat) (hL : ∀ k ∈ L, k < W.heap.size) : RdV w L v l := h L hL
end Go.Proofs.YtchpmdcacpjojaaDoor
/- A number's bytes are put: wire.Num. -/
namespace Go.Proofs.YtchpmdcacpjojaaDoor
open Go Go.RowKit
set_option maxRecDepth 8000
set_option linter.all false

theorem or128 (x : Int) : bits .or .u8 (IntKind.u8.wrap x) 128 = bN (uB ((x % 128).toNat + 128)) := by
  have h : ∀ k : Fin 256, bits .or .u8 (k.val : Int) 128 = ((k.val % 128 + 128 : Nat) : Int) := by decide +kernel
  rw [wrap_u8, bN, toNat_uB]
  have := h ⟨(x % 256).toNat, by omega⟩
  simp only at this
  rw [show (((x % 256).toNat : Nat) : Int) = x % 256 by omega] at this
  rw [this]; omega
theorem and127 (y : Nat) : bits .and .u8 (bN (uB (y % 128 + 128))) 127 = bN (uB (y % 128)) := by
  have h : ∀ k : Fin 256, bits .and .u8 (k.val : Int) 127 = ((k.val % 128 : Nat) : Int) := by decide +kernel
  rw [bN, bN, toNat_uB, toNat_uB]
  have := h ⟨(y % 128 + 128) % 256, by omega⟩
  simp only at this
  rw [this]; omega
/-- The place i, ahead of the last one's mask. -/
def numC (n s i : Nat) : UInt8 := uB (n / 2 ^ (7 * (s - 1 - i)) % 128 + 128)
theorem numC_eq (n s i : Nat) : bits .or .u8 ((n : Int) / 2 ^ (7 * (s - 1 - i)) % 256) 128 = bN (numC n s i) := by
  rw [← wrap_u8, or128, numC]
  have h2 : ((2 : Int) ^ (7 * (s - 1 - i))) = ((2 ^ (7 * (s - 1 - i)) : Nat) : Int) := by simp
  rw [h2, ← Int.natCast_ediv]
  congr 2
theorem sz_test (n k : Nat) (hn : n ≤ 2147483647) (hk : 1 ≤ k) (hk2 : k ≤ sz n) : (0 < (n : Int) / 2 ^ (7 * k)) ↔ k < sz n := by
  have h5 := sz_le n
  have hh : k = 1 ∨ k = 2 ∨ k = 3 ∨ k = 4 ∨ k = 5 := by omega
  unfold sz at *
  rcases hh with rfl | rfl | rfl | rfl | rfl
  all_goals
    simp only [Nat.reduceMul, Int.reducePow]
    split <;> (try split) <;> (try split) <;> (try split) <;> omega
end Go.Proofs.YtchpmdcacpjojaaDoor
/- A reader: a block of two cells, what is left and the error; what its small calls answer. -/
namespace Go.Proofs.YtchpmdcacpjojaaDoor
open Go Go.RowKit
set_option maxRecDepth 8000
set_option linter.all false

/-- It reads as l, in a block ahead of R. -/
def Rest (w : World) (R : Nat) (v : Value) (l : List UInt8) : Prop := ∀ L, (∀ k ∈ L, R ≤ k) → RdV w L v l
theorem Rest.rd {w : World} {R : Nat} {v : Value} {l : List UInt8} (h : Rest w R v l) : RdV w [R] v l := h [R] (by simp)
theorem Rest.new {w w' : World} {R : Nat} {v : Value} {l : List UInt8} (h : Rest w R v l) (hN : NewT w w') : Rest w' R v l := fun L hL => hN.rd (h L hL)
theorem Rest.keep {w w' : World} {R : Nat} {v : Value} {l : List UInt8} (h : Rest w R v l) {G : List Nat} (hG : ∀ k ∈ G, R ≤ k) (hK : KeepBut G w w') : Rest w' R v l := fun L hL => by
  have h1 := h (G ++ L) (fun k hk => by rcases List.mem_append.1 hk with hk | hk; exact hG k hk; exact hL k hk)
  obtain ⟨A, cap, hv, h1, h2, h3⟩ := h1.keep (hK.more fun k hk => List.mem_append.2 (.inl hk))
  refine ⟨A, cap, hv, h1, h2, fun h0 => ?_⟩
  obtain ⟨b, o, hA, hb, hc⟩ := h3 h0
  exact ⟨b, o, hA, fun hm => hb (List.mem_append.2 (.inr hm)), hc⟩
theorem NewT.of_eq {w w' : World} (h : w = w') : NewT w w' := h ▸ NewT.refl w
end Go.Proofs.YtchpmdcacpjojaaDoor
/- What puts: Flag, All, Bytes, Hash; Clone; a new reader. -/
namespace Go.Proofs.YtchpmdcacpjojaaDoor
open Go Go.RowKit
set_option maxRecDepth 8000
set_option linter.all false

theorem flat_take_succ (ps : List (Value × List UInt8)) (k : Nat) (x : Value × List UInt8) (h : ps[k]? = some x) : flat (ps.take (k + 1)) = flat (ps.take k) ++ x.2 := by
  rw [List.take_add_one, h]; exact flat_snoc _ _
theorem flat_take_le (ps : List (Value × List UInt8)) (k : Nat) : (flat (ps.take k)).length ≤ (flat ps).length := by
  have e : flat ps = flat (ps.take k) ++ flat (ps.drop k) := by
    unfold flat; rw [← List.flatten_append, ← List.map_append, List.take_append_drop]
  rw [e]; simp
end Go.Proofs.YtchpmdcacpjojaaDoor
/- Clone; Bytes, Hash; a new reader. -/
namespace Go.Proofs.YtchpmdcacpjojaaDoor
open Go Go.RowKit
set_option maxRecDepth 8000
set_option linter.all false

end Go.Proofs.YtchpmdcacpjojaaDoor
/- Bytes are read as a number: wire.number. -/
namespace Go.Proofs.YtchpmdcacpjojaaDoor
open Go Go.RowKit
set_option maxRecDepth 8000
set_option linter.all false

theorem and127b (c : UInt8) : bits .and .u8 (bN c) 127 = ((c.toNat % 128 : Nat) : Int) := by
  have h : ∀ k : Fin 256, bits .and .u8 (k.val : Int) 127 = ((k.val % 128 : Nat) : Int) := by decide +kernel
  have := h ⟨c.toNat, c.toNat_lt⟩
  exact this
theorem and128b (c : UInt8) : bits .and .u8 (bN c) 128 = if 128 ≤ c.toNat then 128 else 0 := by
  have h : ∀ k : Fin 256, bits .and .u8 (k.val : Int) 128 = if 128 ≤ k.val then 128 else 0 := by decide +kernel
  have := h ⟨c.toNat, c.toNat_lt⟩
  exact this
theorem or7 (v m : Nat) (hm : m < 128) (hv : v < 1125899906842624) : bits .or .u64 ((v : Int) * 128) (m : Int) = ((v * 128 + m : Nat) : Int) := by
  show IntKind.u64.wrap (((BitVec.ofInt 64 ((v : Int) * 128) ||| BitVec.ofInt 64 (m : Int)).toNat : Nat) : Int) = _
  have e1 : BitVec.ofInt 64 ((v : Int) * 128) = BitVec.ofNat 64 (v * 128) := by
    rw [show (v : Int) * 128 = ((v * 128 : Nat) : Int) by omega, BitVec.ofInt_natCast]
  rw [e1, BitVec.ofInt_natCast, BitVec.toNat_or, BitVec.toNat_ofNat, BitVec.toNat_ofNat, Nat.mod_eq_of_lt (by omega), Nat.mod_eq_of_lt (by omega)]
  have := Nat.shiftLeft_add_eq_or_of_lt (b := m) (i := 7) (by omega) v
  rw [Nat.shiftLeft_eq] at this
  rw [show v * 128 = v * 2 ^ 7 by omega, ← this]
  simp [IntKind.wrap, IntKind.bits, IntKind.signed]
  omega
theorem drop_bAt (l : List UInt8) (k : Nat) (h : k < l.length) : l.drop k = bAt l k :: l.drop (k + 1) := by
  rw [List.drop_eq_getElem_cons h]; simp [bAt, h]
/-- What is read, as values. -/
def numV (r : Nat × Nat × Nat) : Value := .tuple #[.int .i64 (r.1 : Int), .int .i64 (r.2.1 : Int), .int .i64 (r.2.2 : Int)]
end Go.Proofs.YtchpmdcacpjojaaDoor
/- A reader reads a number: take[int], Num. -/
namespace Go.Proofs.YtchpmdcacpjojaaDoor
open Go Go.RowKit
set_option maxRecDepth 8000
set_option linter.all false

/-- What stands behind the first k bytes. -/
theorem rd_from {w : World} {L : List Nat} {b o n cap k : Nat} {l : List UInt8} (h : RdV w L (.slice (some ⟨b, o, none⟩) n cap) l) (hk : k ≤ n) :
    RdV w L (.slice (some (if cap = k then ⟨b, o, none⟩ else (⟨b, o, none⟩ : Addr).add k)) (n - k) (cap - k)) (l.drop k) := by
  obtain ⟨A, c, hv, h1, h2, h3⟩ := h
  cases hv
  refine ⟨some (if cap = k then ⟨b, o, none⟩ else (⟨b, o, none⟩ : Addr).add k), cap - k, by simp, by simp; omega, by omega, fun h0 => ?_⟩
  simp at h0
  obtain ⟨b', o', hA, hb, hc⟩ := h3 (by omega)
  cases hA
  refine ⟨b, o + k, by rw [if_neg (by omega), Addr.add_mid], hb, fun i hi => ?_⟩
  simp at hi
  rw [Nat.add_assoc, hc (k + i) (by omega)]
  simp [bAt]
/-- What a number that is asked for turns a reader that isn't bad to. -/
def outN (l : List UInt8) : Nat × List UInt8 × Nat := if (goN l 0 0).2.2 = 0 then ((goN l 0 0).1, l.drop (goN l 0 0).2.1, 0) else (0, [], (goN l 0 0).2.2)
end Go.Proofs.YtchpmdcacpjojaaDoor
/- A reader reads a flag: take[bool], Flag. -/
namespace Go.Proofs.YtchpmdcacpjojaaDoor
open Go Go.RowKit
set_option maxRecDepth 8000
set_option linter.all false

/-- Bytes read as a flag: it, how many bytes it has, the error. -/
def goF : List UInt8 → Bool × Nat × Nat
  | [] => (false, 0, 3)
  | c :: _ => if 1 < c.toNat then (false, 0, 2) else (c.toNat == 1, 1, 0)
theorem goF_bounds (l : List UInt8) : (goF l).2.2 = 0 → (goF l).2.1 = 1 ∧ 1 ≤ l.length := by
  cases l with
  | nil => simp [goF]
  | cons c r => rw [goF]; split <;> simp
theorem goF_err (l : List UInt8) : (goF l).2.2 ≠ 0 → goF l = (false, 0, (goF l).2.2) ∧ ((goF l).2.2 = 2 ∨ (goF l).2.2 = 3) := by
  cases l with
  | nil => simp [goF]
  | cons c r => rw [goF]; split <;> simp
def flagV (r : Bool × Nat × Nat) : Value := .tuple #[.bool r.1, .int .i64 (r.2.1 : Int), .int .i64 (r.2.2 : Int)]
/-- What a flag that is asked for turns a reader that isn't bad to. -/
def outQ (l : List UInt8) : Bool × List UInt8 × Nat := if (goF l).2.2 = 0 then ((goF l).1, l.drop (goF l).2.1, 0) else (false, [], (goF l).2.2)
end Go.Proofs.YtchpmdcacpjojaaDoor
/- A reader reads bytes: take[[]byte], Bytes. -/
namespace Go.Proofs.YtchpmdcacpjojaaDoor
open Go Go.RowKit
set_option maxRecDepth 8000
set_option linter.all false

/-- Bytes read as bytes of a limit: these, how many bytes they have with their number, the error. -/
def goB (l : List UInt8) (most : Int) : List UInt8 × Nat × Nat :=
  if (goN l 0 0).2.2 ≠ 0 then ([], 0, (goN l 0 0).2.2) else if most < ((goN l 0 0).1 : Int) then ([], 0, 4) else if l.length < (goN l 0 0).2.1 + (goN l 0 0).1 then ([], 0, 3)
  else ((l.drop (goN l 0 0).2.1).take (goN l 0 0).1, (goN l 0 0).2.1 + (goN l 0 0).1, 0)
theorem goB_bounds (l : List UInt8) (most : Int) : (goB l most).2.2 = 0 → 0 < (goB l most).2.1 ∧ (goB l most).2.1 ≤ l.length := by
  unfold goB
  split
  · simp; omega
  · rename_i h
    have := goN_bounds l 0 0 (by simpa using h)
    split
    · simp
    · split
      · simp
      · simp; omega
theorem goB_err (l : List UInt8) (most : Int) : (goB l most).2.2 ≠ 0 → goB l most = ([], 0, (goB l most).2.2) := by
  unfold goB
  split
  · simp
  · split
    · simp
    · split <;> simp
theorem slice_mid (b o n cap k m : Nat) (h : k + m ≤ cap) (w : World) : (Instr.slice 49 (.slice (some ⟨b, o, none⟩) n cap) (some (.int .i64 (k : Int))) (some (.int .i64 ((k : Int) + (m : Int)))) none).run Tryd.prog w = .ok (.slice (some (if cap = k then ⟨b, o, none⟩ else (⟨b, o, none⟩ : Addr).add k)) m (cap - k)) w := by
  have hsz : (sizeOf 5).run Tryd.prog w = .ok 1 w := by
    obtain ⟨i0, hi, _, hz1, _⟩ := info_parts info5
    simp [sizeOf, typeInfo, hi, hz1]
  have h3 : (0 : Int) ≤ (k : Int) + (m : Int) ∧ (k : Int) + (m : Int) ≤ (cap : Int) := by omega
  have h4 : k ≤ ((k : Int) + (m : Int)).toNat := by omega
  have h6 : ((k : Int) + (m : Int)).toNat - k = m := by omega
  by_cases h5 : cap = k
  · simp [Instr.slice, run_underlying Tryd.underlying49, Instr.sliceBounds, Instr.sliceBound, asIntOf, hsz, h3, h4, h5, h6, Addr.add_zero']
    omega
  · simp [Instr.slice, run_underlying Tryd.underlying49, Instr.sliceBounds, Instr.sliceBound, asIntOf, hsz, h3, h4, h5, h6]
/-- The m bytes behind the first k. -/
theorem rd_mid {w : World} {L : List Nat} {b o n cap k m : Nat} {l : List UInt8} (h : RdV w L (.slice (some ⟨b, o, none⟩) n cap) l) (hk : k + m ≤ n) :
    RdV w L (.slice (some (if cap = k then ⟨b, o, none⟩ else (⟨b, o, none⟩ : Addr).add k)) m (cap - k)) ((l.drop k).take m) := by
  obtain ⟨A, c, hv, h1, h2, h3⟩ := h
  cases hv
  have hlen : ((l.drop k).take m).length = m := by simp; omega
  refine ⟨some (if cap = k then ⟨b, o, none⟩ else (⟨b, o, none⟩ : Addr).add k), cap - k, by rw [hlen], by rw [hlen]; omega, by omega, fun h0 => ?_⟩
  rw [hlen] at h0
  obtain ⟨b', o', hA, hb, hc⟩ := h3 (by omega)
  cases hA
  refine ⟨b, o + k, by rw [if_neg (by omega), Addr.add_mid], hb, fun i hi => ?_⟩
  rw [hlen] at hi
  rw [Nat.add_assoc, hc (k + i) (by omega)]
  simp [bAt, List.getElem?_take, hi]
theorem svRdN_step {W w w' : World} {R : Nat} {u : Value} {t : List UInt8} (h : (svRdN W t).pred u w) (hT : RT R w w') (hR : R < W.heap.size) : (svRdN W t).pred u w' := fun L hL => by
  have h1 : RdV w (R :: L) u t := h (R :: L) (fun k hk => by rcases List.mem_cons.1 hk with rfl | hk; exact hR; exact hL k hk)
  exact (h1.keep (hT.keep.more fun k hk => by simp at hk; simp [hk])).less fun k hk => by simp [hk]
theorem svRdN_base {W w w' : World} {u : Value} {t : List UInt8} (h : (svRdN W t).pred u w') (hB : w.heap.size ≤ W.heap.size) : (svRdN w t).pred u w' := fun L hL => h L fun k hk => by have := hL k hk; omega
/-- What bytes that are asked for turn a reader that isn't bad to. -/
def outB (l : List UInt8) (most : Int) : List UInt8 × List UInt8 × Nat := if (goB l most).2.2 = 0 then ((goB l most).1, l.drop (goB l most).2.1, 0) else ([], [], (goB l most).2.2)
end Go.Proofs.YtchpmdcacpjojaaDoor
/- A reader reads a hash: take[api.Hash], Hash. -/
namespace Go.Proofs.YtchpmdcacpjojaaDoor
open Go Go.RowKit
set_option maxRecDepth 8000
set_option linter.all false

/-- Bytes read as a hash: it, how many bytes it has, the error. -/
def goH (l : List UInt8) : (Nat → UInt8) × Nat × Nat := if l.length < 32 then (fun _ => 0, 0, 3) else (bAt l, 32, 0)
theorem results_row3 {P : Program} {w : World} {b : Nat} {t : TypeId} {n : Nat} {f : Nat → Value} {e : TypeId} {m : Nat} {fn : Func} {p u v : Tmp} {ty : TypeId} (hf : fn.results = #[.cell p ty, .tmp u, .tmp v]) (tmps : Array Value) (hp : tmps.getD p undef = .pointer (some ⟨b, 0, none⟩))
    (h : w.rowIs b t n f) (hu : P.underlying ty = some (.array m e)) (hi : (P.info? ty).map (·.size) = some n) : (results fn tmps).run P w = .ok (.tuple #[.agg (rowA n f), tmps.getD u undef, tmps.getD v undef]) w := by
  have := load_row (P := P) h hu hi
  have hp' : tmps[p]?.getD undef = .pointer (some ⟨b, 0, none⟩) := by simpa using hp
  simp [results, hf, hp', asAddr, this]
theorem rdV_none {W W' : World} {L L' : List Nat} {v : Value} (h : RdV W L v []) : RdV W' L' v [] := by
  obtain ⟨A, c, hv, h1, h2, _⟩ := h
  exact ⟨A, c, hv, h1, h2, fun h => absurd h (by simp)⟩
/-- A whole array is stored into a row. -/
theorem wpList_store_row {P : Program} {ops : Array Oper} {rest : List Oper} {op : Oper} {a : Act} {w : World} {Q : Exit → Act → World → Prop} (hgd : op.guard = none) (ty : TypeId) (x y : Operand) (ho : op.op = .store ty x y)
    (g n : Nat) (D : Nat → UInt8) (hx : a.eval x = .pointer (some ⟨g, 0, none⟩)) (hy : a.eval y = .agg (rowA n (bF D))) {t' : TypeId} {f0 : Nat → Value} (hr : w.rowIs g t' n f0) (hi : (P.info? ty).map (·.size) = some n)
    (h : ∀ w', KeepBut [g] w w' → (∀ B, B ≤ g → Below B w w') → w'.rowIs g t' n (bF D) → wpList P ops Q rest (a.put op.dst undef) w') : wpList P ops Q (op :: rest) a w :=
  wpList_store_mid hgd ty x y ho g 0 (rowA n (bF D)) hx hy (by rw [rowA_size]; exact there_row hr) (by rw [rowA_size]; exact hi) (rowA_one _ _ fun _ => rfl)
    (h _ (KeepBut.setCells (by simp) _ _ _) (fun B hB => below_setCells g hB _ _ _ (Below.refl _ _)) (rowIs_setAll hr (bF D)))
/-- What a hash that is asked for turns a reader that isn't bad to. -/
def outH (l : List UInt8) : (Nat → UInt8) × List UInt8 × Nat := if l.length < 32 then (fun _ => 0, [], 3) else (bAt l, l.drop 32, 0)
/-- Blocks that came behind W are written, and R: to whoever looks from W on, a step that writes R alone. -/
theorem RT.late {R g : Nat} {W w w' : World} (h : RT R W w) (hg : W.heap.size ≤ g) (hR : R < W.heap.size) (hK : KeepBut [g] w w') (hB : ∀ B, B ≤ g → Below B w w') : RT R W w' :=
  ⟨h.below.trans (hB R (by omega)), Nat.le_trans h.keep.1 hK.1, fun k o hk ho hc => hK.2 k o (by have := (Array.getElem?_eq_some_iff.1 ho).1; simp; omega) (h.keep.2 k o hk ho hc) hc⟩
end Go.Proofs.YtchpmdcacpjojaaDoor
