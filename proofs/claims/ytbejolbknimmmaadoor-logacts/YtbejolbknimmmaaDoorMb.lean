/- The two tables, out of the rows' own condition; the row's last step where the world has new blocks alone; the shapes of the arguments. -/
import Derived.Test.YtbejolbknimmmaaDoorRows
import Derived.Test.YtbejolbknimmmaaDoorMa
import Derived.ProofKit
import Derived.LaidMore
import Derived.OpenShut
import Derived.Stop.Joined
import Derived.Lib.LaidTab
import Derived.Stop.LaidErr
import Derived.Deep.Matrix
import Derived.SizedLaws
import Derived.Lib.SliceRun
import Derived.Laws.CopyOwn
set_option linter.all false
namespace Go.Proofs.YtbejolbknimmmaaDoor
open Go.ChangeShapes Go.WideShapes Go.ChangeAt Go.WideMaps Go.WideElems Go.RowKit
set_option maxRecDepth 8000
set_option linter.all false

theorem gK : Tryd.prog.globalNamed "inspeximus/api.K" = some 1 := by kernel_rfl
theorem gF : Tryd.prog.globalNamed "inspeximus/api.First" = some 0 := by kernel_rfl
theorem tK : (Tryd.prog.globals[1]?).map (·.type) = some 110 := by kernel_rfl
theorem tF : (Tryd.prog.globals[0]?).map (·.type) = some 92 := by kernel_rfl
def laid2 : List (String × DataW Unit) := [("inspeximus/api.K", Rows.laid_inspeximus_api_K), ("inspeximus/api.First", Rows.laid_inspeximus_api_First)]
def kInts : List Int := kTab.map fun (n : Nat) => (n : Int)
def fInts : List Int := fTab.map fun (n : Nat) => (n : Int)
theorem laidK : (Rows.laid_inspeximus_api_K : DataW Unit) = Lib.tabData .u32 kInts := rfl
theorem laidF : (Rows.laid_inspeximus_api_First : DataW Unit) = Lib.tabData .u32 fInts := rfl
theorem tables_of_laid {W : World} (h : laidMetH Tryd.prog laid2 W) : Tables W := by
  rw [MakeChecks.laidMetH_plain _ _ _ (by kernel_rfl)] at h
  have hK : Lib.TabIs Tryd.prog W "inspeximus/api.K" .u32 kInts := Lib.tabIs_of_head gK tK Tryd.underlying110 Tryd.underlying91 (by kernel_rfl) (by kernel_rfl) h
  have hF : Lib.TabIs Tryd.prog W "inspeximus/api.First" .u32 fInts := Lib.tabIs_of_head gF tF Tryd.underlying92 Tryd.underlying91 (by kernel_rfl) (by kernel_rfl) (laidMet.tail h)
  have hs : 1 < W.heap.size := World.block_lt_of_cell? _ _ (hK.cell gK 0 (by decide))
  refine ⟨hs, fun i hi => ?_, fun i hi => ?_⟩
  · rw [hK.cell gK i (by simpa [kInts, kTab] using hi)]
    have h : ∀ i : Fin 64, kInts.getD i.val 0 = uN (Kc i.val) := by decide +kernel
    rw [h ⟨i, hi⟩]
  · rw [hF.cell gF i (by simpa [fInts, fTab] using hi)]
    have h : ∀ i : Fin 8, fInts.getD i.val 0 = uN (Fc i.val) := by decide +kernel
    rw [h ⟨i, hi⟩]
/-- The door's own heap meets the condition. -/
theorem door_met (os : Os) (args : Array Value) : laidMetH Tryd.prog laid2 ((World.doorLaid Tryd.prog 400 os).forCall (fun _ _ => 0) ⟨#[], args, []⟩).memory :=
  laidMetH_of_parts3 (fuel := 8) (laidMet_of_run' 8 (by kernel_rfl) (by kernel_rfl)) (by kernel_rfl) (by kernel_rfl)
end Go.Proofs.YtbejolbknimmmaaDoor
/- (all of it lies in EP now) -/
/- The laws' arguments, opened: arrays of numbers by value, slices of bytes. -/
namespace Go.Proofs.YtbejolbknimmmaaDoor
open Go.ChangeShapes Go.WideShapes Go.ChangeAt Go.WideMaps Go.WideElems Go.RowKit
set_option maxRecDepth 8000
set_option linter.all false

theorem open_words {f : Nat → Int} {n : Nat} (h : ∀ i, i < n → (Lit.int .u32 (f i)).wf = true) : ∃ d : Nat → BitVec 32, rowA n (fun i => Value.int .u32 (f i)) = rowA n (uF d) := by
  refine ⟨fun i => BitVec.ofNat 32 (f i).toNat, rowA_congr fun i hi => ?_⟩
  have := bounds_u32 (h i hi)
  unfold uF uN
  rw [BitVec.toNat_ofNat]
  congr 1
  omega
end Go.Proofs.YtbejolbknimmmaaDoor
/- The laws' arguments, opened: slices of slices of bytes, with what bounds each. -/
namespace Go.Proofs.YtbejolbknimmmaaDoor
open Go.ChangeShapes Go.WideShapes Go.ChangeAt Go.WideMaps Go.WideElems Go.RowKit
set_option maxRecDepth 8000
set_option linter.all false


theorem weights_all_mem {H : Type} {P : Program} {e : TypeId} : ∀ {l : List (DataW H)} {d : DataW H}, d ∈ l → ∀ n ∈ d.weights P e, n ∈ DataW.weightsAll P e l
  | d' :: r, d, hd, n, hn => by
    simp only [DataW.weightsAll, List.mem_append]
    rcases List.mem_cons.1 hd with rfl | h
    · exact Or.inl hn
    · exact Or.inr (weights_all_mem h n hn)
theorem weights_one {H : Type} {P : Program} {ts : List TypeId} {ds : List (DataW H)} (h : (DataW.weightsEach P ts ds).all (· ≤ reachBytes) = true) {j : Nat} {t : TypeId} {d : DataW H} (ht : ts[j]? = some t) (hd : ds[j]? = some d) : ∀ n ∈ d.weights P t, n ≤ reachBytes :=
  fun n hn => by simpa using List.all_eq_true.1 h n (DataW.weights_mem_each ht hd n hn)
theorem cells1 : Tryd.prog.cellsOf 33 = 1 := by kernel_rfl
theorem cells1b : Tryd.prog.cellsOf 5 = 1 := by kernel_rfl
theorem bytes1 : Tryd.prog.bytesOf 5 = 1 := by kernel_rfl
/-- A slice of slices of bytes that came in reads as a list of lists; each is short enough to lie in memory. -/
theorem open_parts {H : Type} {enc : TypeId × Value → H} {w : World} {base : Nat} {held : Bool} {v : Value} {d : DataW H} {p : List MemPlace} {r : Reach} {b0 : Nat}
    (hv : Value.okWide Tryd.prog w r b0 26 v) (h : DataW.Trod enc Tryd.prog w base (fun _ => true) held 26 v d p) (hw : ∀ n ∈ d.weights Tryd.prog 26, n ≤ reachBytes) : ∃ ls : List (List UInt8), Parts w v ls ∧ ∀ l ∈ ls, l.length ≤ 140737488351232 := by
  obtain ⟨a0, len, cap, rfl⟩ := okWide_slice Tryd.underlying26 hv
  obtain ⟨fuel, hf⟩ := h
  rcases Go.Deep.open_int_rows Tryd.underlying26 Tryd.underlying33 Tryd.underlying5 cells1 cells1b hf with ⟨hcs, _⟩ | ⟨a, len', cap', A, L, C, Z, hcs, _, hl, hm, hx, hr⟩
  · simp [Value.cells] at hcs
    obtain ⟨rfl, rfl, rfl⟩ := hcs
    exact ⟨[], ⟨[], ⟨none, 0, rfl, by simp, by unfold maxLen; omega, fun h0 => absurd h0 (by simp), fun x hx => by simp at hx⟩, rfl⟩, fun l hl => by simp at hl⟩
  · simp [Value.cells] at hcs
    obtain ⟨rfl, rfl, rfl⟩ := hcs
    simp only [Prod.mk.injEq] at hx
    obtain ⟨hd, _⟩ := hx
    have hlenl : ∀ i, i < len → ((Z i).take (L i)).length = L i := fun i hi => by
      obtain ⟨_, h1, _, h3, _⟩ := hr i (by omega)
      simp; omega
    refine ⟨(List.range len).map fun i => ((Z i).take (L i)).map fun z => UInt8.ofNat z.toNat, ⟨(List.range len).map fun i => (.slice (A i) (L i) (C i), ((Z i).take (L i)).map fun z => UInt8.ofNat z.toNat), ⟨some a, cap, by simp, by simpa using hl, hm, fun h0 => ?_, fun x hx => ?_⟩, by simp⟩, fun l hlm => ?_⟩
    · have h0' : 0 < len := by simpa using h0
      obtain ⟨b, off, spot⟩ := a
      have hspot : spot = none := by simpa [Addr.add] using World.cell?_spot (hr 0 (by omega)).1
      subst hspot
      refine ⟨b, off, rfl, by simp, fun i x hx => ?_⟩
      rw [List.getElem?_map] at hx
      have hi : i < len := by
        have := (List.getElem?_eq_some_iff.1 (show ((List.range len).map fun i => ((Value.slice (A i) (L i) (C i)), ((Z i).take (L i)).map fun z => UInt8.ofNat z.toNat))[i]? = some x by rw [List.getElem?_map]; exact hx)).1
        simpa using this
      simp [hi] at hx
      subst hx
      have := (hr i (by omega)).1
      rwa [Go.WideShapes.add_plain] at this
    · obtain ⟨i, hi, rfl⟩ := List.mem_map.1 hx
      have hi' : i < len := by simpa using hi
      obtain ⟨_, h1, h2, h3, h4, h5, h6⟩ := hr i (by omega)
      have hll : (((Z i).take (L i)).map fun z => UInt8.ofNat z.toNat).length = L i := by simp; omega
      refine ⟨A i, C i, by rw [hll], by rw [hll]; exact h1, h2, fun h0 => ?_⟩
      rw [hll] at h0
      cases hA : A i with
      | none => have := h5 hA; omega
      | some a' =>
        obtain ⟨_, h7⟩ := h6 a' hA
        obtain ⟨b, off, spot⟩ := a'
        have hspot : spot = none := by simpa [Addr.add] using World.cell?_spot (h7 0 (by omega))
        subst hspot
        refine ⟨b, off, rfl, by simp, fun j hj => ?_⟩
        rw [hll] at hj
        have hc := h7 j (by omega)
        rw [Go.WideShapes.add_plain] at hc
        rw [hc]
        have hzj : (Z i)[j]? = some (Z i)[j] := List.getElem?_eq_getElem (by omega)
        have hb := bounds_u8 (h4 (Z i)[j] (List.getElem_mem (by omega)))
        have e1 : bAt (((Z i).take (L i)).map fun z => UInt8.ofNat z.toNat) j = UInt8.ofNat (Z i)[j].toNat := by simp [bAt, hj, hzj]
        rw [e1]
        unfold bN
        rw [UInt8.toNat_ofNat']
        simp [List.getD, hzj]
        omega
    · obtain ⟨i, hi, rfl⟩ := List.mem_map.1 hlm
      have hi' : i < len := by simpa using hi
      rw [List.length_map, hlenl i hi']
      obtain ⟨_, h1, _, h3, _, h5, _⟩ := hr i (by omega)
      cases hA : A i with
      | none => have := h5 hA; omega
      | some a' =>
        have hmem : (Go.Deep.intRow (H := H) .u8 (A i) (L i) (Z i)) ∈ (List.range len).map fun r => Go.Deep.intRow (H := H) .u8 (A r) (L r) (Z r) := List.mem_map.2 ⟨i, hi, rfl⟩
        have hwt := hw ((((lits (H := H) .u8 ((Z i).take (L i))).length + (lits (H := H) .u8 ((Z i).drop (L i))).length)) * Tryd.prog.bytesOf 5) (by
          rw [hd]
          simp only [DataW.weights, Tryd.underlying26, List.mem_cons, List.mem_append]
          refine Or.inr (Or.inl (weights_all_mem hmem _ ?_))
          simp only [Go.Deep.intRow, hA, DataW.weights, Tryd.underlying33, List.mem_cons]
          exact Or.inl trivial)
        rw [bytes1] at hwt
        have hr1 : reachBytes = 140737488351232 := rfl
        simp [lits] at hwt
        omega
end Go.Proofs.YtbejolbknimmmaaDoor
/- Slices of slices of bytes: their elements' cells. No program is named here. -/
namespace Go.Proofs.YtbejolbknimmmaaDoor
open Go Go.RowKit
set_option maxRecDepth 8000
set_option linter.all false
theorem parts_cell {w : World} {A : Option Addr} {n c : Nat} {ps : List (Value × List UInt8)} (h : PartsAt w [] (.slice A n c) ps) (h0 : 0 < ps.length) : ∃ b o, A = some ⟨b, o, none⟩ ∧ b < w.heap.size ∧ ∀ i x, ps[i]? = some x → w.cell? ⟨b, o + i, none⟩ = some x.1 := by
  obtain ⟨A', c', hv, _, _, h3, _⟩ := h
  cases hv
  obtain ⟨b, o, hA, _, hc⟩ := h3 h0
  exact ⟨b, o, hA, World.block_lt_of_cell? _ _ (hc 0 _ (List.getElem?_eq_getElem h0)), hc⟩
theorem parts_rd {w : World} {L : List Nat} {v : Value} {ps : List (Value × List UInt8)} (h : PartsAt w L v ps) {x : Value × List UInt8} (hx : x ∈ ps) : RdV w L x.1 x.2 := by
  obtain ⟨_, _, _, _, _, _, h4⟩ := h
  exact h4 x hx
theorem cell_new {w w' : World} {b i : Nat} {u : Value} (h : NewT w w') (hb : b < w.heap.size) (hc : w.cell? ⟨b, i, none⟩ = some u) : w'.cell? ⟨b, i, none⟩ = some u := (h.out.cell (p := ⟨b, i, none⟩) hb).trans hc
end Go.Proofs.YtbejolbknimmmaaDoor
/- Numbers as bytes, on lists: a number's bytes, how bytes are read as a number, and that these two are one another's. No program is named here. -/
namespace Go.Proofs.YtbejolbknimmmaaDoor
open Go
set_option maxRecDepth 8000
set_option linter.all false

/-- How many bytes a number has. -/
def sz (n : Nat) : Nat := if n < 128 then 1 else if n < 16384 then 2 else if n < 2097152 then 3 else if n < 268435456 then 4 else 5
abbrev uB (n : Nat) : UInt8 := UInt8.ofNat n
/-- A number's bytes. -/
def numL (n : Nat) : List UInt8 :=
  if n < 128 then [uB n] else if n < 16384 then [uB (n / 128 + 128), uB (n % 128)] else if n < 2097152 then [uB (n / 16384 + 128), uB (n / 128 % 128 + 128), uB (n % 128)]
  else if n < 268435456 then [uB (n / 2097152 + 128), uB (n / 16384 % 128 + 128), uB (n / 128 % 128 + 128), uB (n % 128)]
  else [uB (n / 268435456 % 128 + 128), uB (n / 2097152 % 128 + 128), uB (n / 16384 % 128 + 128), uB (n / 128 % 128 + 128), uB (n % 128)]
theorem numL_length (n : Nat) : (numL n).length = sz n := by unfold numL sz; split <;> (try split) <;> (try split) <;> (try split) <;> rfl
theorem sz_pos (n : Nat) : 1 ≤ sz n := by unfold sz; split <;> (try split) <;> (try split) <;> (try split) <;> omega
theorem sz_le (n : Nat) : sz n ≤ 5 := by unfold sz; split <;> (try split) <;> (try split) <;> (try split) <;> omega
/-- The bytes of whatever number there is, none of what is none. -/
def numI (n : Int) : List UInt8 := if 0 ≤ n ∧ n ≤ 2147483647 then numL n.toNat else []
theorem numI_nat (n : Nat) (h : n ≤ 2147483647) : numI (n : Int) = numL n := by unfold numI; rw [if_pos (by omega), Int.toNat_natCast]
theorem numI_length (n : Int) : (numI n).length ≤ 5 := by
  unfold numI; split
  · rw [numL_length]; exact sz_le _
  · simp
/-- Bytes, from place i on, read as a number: it, how many bytes it has, the error. -/
def goN : List UInt8 → Nat → Nat → Nat × Nat × Nat
  | [], _, _ => (0, 0, 3)
  | c :: r, i, v => if (i = 0 ∧ c.toNat = 128) ∨ i = 5 then (0, 0, 2) else if 128 ≤ c.toNat then goN r (i + 1) (v * 128 + c.toNat % 128)
    else if 2147483647 < v * 128 + c.toNat % 128 then (0, 0, 2) else (v * 128 + c.toNat % 128, i + 1, 0)
theorem toNat_uB (n : Nat) : (uB n).toNat = n % 256 := UInt8.toNat_ofNat'
theorem goN_put (n : Nat) (hn : n ≤ 2147483647) (r : List UInt8) : goN (numL n ++ r) 0 0 = (n, sz n, 0) := by
  unfold numL sz
  by_cases h1 : n < 128
  · rw [if_pos h1, if_pos h1]
    simp only [List.cons_append, List.nil_append, goN, toNat_uB]
    rw [if_neg (by omega), if_neg (by omega), if_neg (by omega)]
    simp; omega
  rw [if_neg h1, if_neg h1]
  by_cases h2 : n < 16384
  · rw [if_pos h2, if_pos h2]
    simp only [List.cons_append, List.nil_append, goN, toNat_uB]
    rw [if_neg (by omega), if_pos (by omega), if_neg (by omega), if_neg (by omega), if_neg (by omega)]
    simp; omega
  rw [if_neg h2, if_neg h2]
  by_cases h3 : n < 2097152
  · rw [if_pos h3, if_pos h3]
    simp only [List.cons_append, List.nil_append, goN, toNat_uB]
    rw [if_neg (by omega), if_pos (by omega), if_neg (by omega), if_pos (by omega), if_neg (by omega), if_neg (by omega), if_neg (by omega)]
    simp; omega
  rw [if_neg h3, if_neg h3]
  by_cases h4 : n < 268435456
  · rw [if_pos h4, if_pos h4]
    simp only [List.cons_append, List.nil_append, goN, toNat_uB]
    rw [if_neg (by omega), if_pos (by omega), if_neg (by omega), if_pos (by omega), if_neg (by omega), if_pos (by omega), if_neg (by omega), if_neg (by omega), if_neg (by omega)]
    simp; omega
  rw [if_neg h4, if_neg h4]
  simp only [List.cons_append, List.nil_append, goN, toNat_uB]
  rw [if_neg (by omega), if_pos (by omega), if_neg (by omega), if_pos (by omega), if_neg (by omega), if_pos (by omega), if_neg (by omega), if_pos (by omega), if_neg (by omega), if_neg (by omega), if_neg (by omega)]
  simp; omega
/-- What an error says, and that there is none of another kind. -/
theorem goN_err : ∀ (l : List UInt8) (i v : Nat), (goN l i v).2.2 ≠ 0 → goN l i v = (0, 0, (goN l i v).2.2) ∧ ((goN l i v).2.2 = 2 ∨ (goN l i v).2.2 = 3)
  | [], _, _, _ => ⟨rfl, .inr rfl⟩
  | c :: r, i, v, h => by
    rw [goN] at h ⊢
    split
    · exact ⟨rfl, .inl rfl⟩
    · rename_i h1
      rw [if_neg h1] at h
      split
      · rename_i h2
        rw [if_pos h2] at h
        exact goN_err r _ _ h
      · rename_i h2
        rw [if_neg h2] at h
        split
        · exact ⟨rfl, .inl rfl⟩
        · rename_i h3
          rw [if_neg h3] at h
          exact absurd rfl h
theorem goN_bounds : ∀ (l : List UInt8) (i v : Nat), (goN l i v).2.2 = 0 → (goN l i v).1 ≤ 2147483647 ∧ i < (goN l i v).2.1 ∧ (goN l i v).2.1 ≤ i + l.length
  | [], _, _, h => by simp [goN] at h
  | c :: r, i, v, h => by
    rw [goN] at h ⊢
    split at h
    · simp at h
    · rename_i h1
      rw [if_neg h1]
      split at h
      · rename_i h2
        rw [if_pos h2]
        have := goN_bounds r (i + 1) _ h
        simp only [List.length_cons]
        omega
      · rename_i h2
        rw [if_neg h2]
        split at h
        · simp at h
        · rename_i h3
          rw [if_neg h3]
          simp only [List.length_cons]
          omega
theorem uB_back (c : UInt8) (n : Nat) (h : n = c.toNat) : uB n = c := by subst h; simp [uB]
/-- Each number has one form, and no beginning of it is a number. -/
theorem goN_one (b : List UInt8) (n k : Nat) (h : goN b 0 0 = (n, k, 0)) : numL n = b.take k ∧ ∀ i, i < k → goN (b.take i) 0 0 = (0, 0, 3) := by
  rcases b with _ | ⟨c0, b⟩
  · simp [goN] at h
  have t0 := c0.toNat_lt
  rw [goN] at h
  split at h
  · simp at h
  rename_i g0
  split at h
  rotate_left
  · rename_i h0
    split at h
    · simp at h
    rename_i m0
    simp only [Prod.mk.injEq] at h
    obtain ⟨rfl, rfl, _⟩ := h
    refine ⟨?_, fun i hi => ?_⟩
    · unfold numL
      rw [if_pos (by omega)]
      simp only [List.take_succ_cons, List.take_zero, List.cons.injEq, and_true]
      exact uB_back _ _ (by omega)
    · obtain rfl : i = 0 := by omega
      rfl
  rename_i h0
  rcases b with _ | ⟨c1, b⟩
  · simp [goN] at h
  have t1 := c1.toNat_lt
  rw [goN] at h
  split at h
  · simp at h
  rename_i g1
  split at h
  rotate_left
  · rename_i h1
    split at h
    · simp at h
    rename_i m1
    simp only [Prod.mk.injEq] at h
    obtain ⟨rfl, rfl, _⟩ := h
    refine ⟨?_, fun i hi => ?_⟩
    · unfold numL
      rw [if_neg (by omega), if_pos (by omega)]
      simp only [Nat.zero_add, Nat.reduceAdd, List.take_succ_cons, List.take_zero, List.cons.injEq, and_true]
      exact ⟨uB_back _ _ (by omega), uB_back _ _ (by omega)⟩
    · have : i = 0 ∨ i = 1 := by omega
      rcases this with rfl | rfl
      · rfl
      · simp only [List.take_succ_cons, List.take_zero, goN]
        rw [if_neg (by first | omega | (simp; omega)), if_pos h0]
  rename_i h1
  rcases b with _ | ⟨c2, b⟩
  · simp [goN] at h
  have t2 := c2.toNat_lt
  rw [goN] at h
  split at h
  · simp at h
  rename_i g2
  split at h
  rotate_left
  · rename_i h2
    split at h
    · simp at h
    rename_i m2
    simp only [Prod.mk.injEq] at h
    obtain ⟨rfl, rfl, _⟩ := h
    refine ⟨?_, fun i hi => ?_⟩
    · unfold numL
      rw [if_neg (by omega), if_neg (by omega), if_pos (by omega)]
      simp only [Nat.zero_add, Nat.reduceAdd, List.take_succ_cons, List.take_zero, List.cons.injEq, and_true]
      exact ⟨uB_back _ _ (by omega), uB_back _ _ (by omega), uB_back _ _ (by omega)⟩
    · have : i = 0 ∨ i = 1 ∨ i = 2 := by omega
      rcases this with rfl | rfl | rfl
      · rfl
      · simp only [List.take_succ_cons, List.take_zero, goN]
        rw [if_neg (by first | omega | (simp; omega)), if_pos h0]
      · simp only [List.take_succ_cons, List.take_zero, goN]
        rw [if_neg (by first | omega | (simp; omega)), if_pos h0, if_neg (by first | omega | (simp; omega)), if_pos h1]
  rename_i h2
  rcases b with _ | ⟨c3, b⟩
  · simp [goN] at h
  have t3 := c3.toNat_lt
  rw [goN] at h
  split at h
  · simp at h
  rename_i g3
  split at h
  rotate_left
  · rename_i h3
    split at h
    · simp at h
    rename_i m3
    simp only [Prod.mk.injEq] at h
    obtain ⟨rfl, rfl, _⟩ := h
    refine ⟨?_, fun i hi => ?_⟩
    · unfold numL
      rw [if_neg (by omega), if_neg (by omega), if_neg (by omega), if_pos (by omega)]
      simp only [Nat.zero_add, Nat.reduceAdd, List.take_succ_cons, List.take_zero, List.cons.injEq, and_true]
      exact ⟨uB_back _ _ (by omega), uB_back _ _ (by omega), uB_back _ _ (by omega), uB_back _ _ (by omega)⟩
    · have : i = 0 ∨ i = 1 ∨ i = 2 ∨ i = 3 := by omega
      rcases this with rfl | rfl | rfl | rfl
      · rfl
      · simp only [List.take_succ_cons, List.take_zero, goN]
        rw [if_neg (by first | omega | (simp; omega)), if_pos h0]
      · simp only [List.take_succ_cons, List.take_zero, goN]
        rw [if_neg (by first | omega | (simp; omega)), if_pos h0, if_neg (by first | omega | (simp; omega)), if_pos h1]
      · simp only [List.take_succ_cons, List.take_zero, goN]
        rw [if_neg (by first | omega | (simp; omega)), if_pos h0, if_neg (by first | omega | (simp; omega)), if_pos h1, if_neg (by first | omega | (simp; omega)), if_pos h2]
  rename_i h3
  rcases b with _ | ⟨c4, b⟩
  · simp [goN] at h
  have t4 := c4.toNat_lt
  rw [goN] at h
  split at h
  · simp at h
  rename_i g4
  split at h
  rotate_left
  · rename_i h4
    split at h
    · simp at h
    rename_i m4
    simp only [Prod.mk.injEq] at h
    obtain ⟨rfl, rfl, _⟩ := h
    refine ⟨?_, fun i hi => ?_⟩
    · unfold numL
      rw [if_neg (by omega), if_neg (by omega), if_neg (by omega), if_neg (by omega)]
      simp only [Nat.zero_add, Nat.reduceAdd, List.take_succ_cons, List.take_zero, List.cons.injEq, and_true]
      exact ⟨uB_back _ _ (by omega), uB_back _ _ (by omega), uB_back _ _ (by omega), uB_back _ _ (by omega), uB_back _ _ (by omega)⟩
    · have : i = 0 ∨ i = 1 ∨ i = 2 ∨ i = 3 ∨ i = 4 := by omega
      rcases this with rfl | rfl | rfl | rfl | rfl
      · rfl
      · simp only [List.take_succ_cons, List.take_zero, goN]
        rw [if_neg (by first | omega | (simp; omega)), if_pos h0]
      · simp only [List.take_succ_cons, List.take_zero, goN]
        rw [if_neg (by first | omega | (simp; omega)), if_pos h0, if_neg (by first | omega | (simp; omega)), if_pos h1]
      · simp only [List.take_succ_cons, List.take_zero, goN]
        rw [if_neg (by first | omega | (simp; omega)), if_pos h0, if_neg (by first | omega | (simp; omega)), if_pos h1, if_neg (by first | omega | (simp; omega)), if_pos h2]
      · simp only [List.take_succ_cons, List.take_zero, goN]
        rw [if_neg (by first | omega | (simp; omega)), if_pos h0, if_neg (by first | omega | (simp; omega)), if_pos h1, if_neg (by first | omega | (simp; omega)), if_pos h2, if_neg (by first | omega | (simp; omega)), if_pos h3]
  rename_i h4
  rcases b with _ | ⟨c5, b⟩
  · simp [goN] at h
  · rw [goN, if_pos (by omega)] at h
    simp at h
/-- The place i of a number's bytes. -/
def numB (n s i : Nat) : UInt8 := if i + 1 = s then uB (n / 2 ^ (7 * (s - 1 - i)) % 128) else uB (n / 2 ^ (7 * (s - 1 - i)) % 128 + 128)
theorem numL_row (n : Nat) (hn : n ≤ 2147483647) : numL n = (List.range (sz n)).map (numB n (sz n)) := by
  unfold numL sz
  by_cases h1 : n < 128
  · rw [if_pos h1, if_pos h1]; simp [numB, List.range_succ, show n % 128 = n by omega]
  rw [if_neg h1, if_neg h1]
  by_cases h2 : n < 16384
  · rw [if_pos h2, if_pos h2]; simp [numB, List.range_succ, show n / 128 % 128 = n / 128 by omega]
  rw [if_neg h2, if_neg h2]
  by_cases h3 : n < 2097152
  · rw [if_pos h3, if_pos h3]; simp [numB, List.range_succ, show n / 16384 % 128 = n / 16384 by omega]
  rw [if_neg h3, if_neg h3]
  by_cases h4 : n < 268435456
  · rw [if_pos h4, if_pos h4]; simp [numB, List.range_succ, show n / 2097152 % 128 = n / 2097152 by omega]
  rw [if_neg h4, if_neg h4]
  simp [numB, List.range_succ]
/-- A greater number by its head. -/
theorem numL_step (n : Nat) (hn : n ≤ 2147483647) (h : 128 ≤ n) : ∃ (init : List UInt8) (x : Nat), x < 128 ∧ numL (n / 128) = init ++ [uB x] ∧ numL n = init ++ [uB (x + 128), uB (n % 128)] := by
  unfold numL
  rw [if_neg (show ¬ n < 128 by omega)]
  by_cases h2 : n < 16384
  · rw [if_pos h2, if_pos (by omega)]
    exact ⟨[], n / 128, by omega, rfl, rfl⟩
  rw [if_neg h2, if_neg (show ¬ n / 128 < 128 by omega)]
  by_cases h3 : n < 2097152
  · rw [if_pos h3, if_pos (show n / 128 < 16384 by omega)]
    refine ⟨[uB (n / 128 / 128 + 128)], n / 128 % 128, by omega, rfl, ?_⟩
    rw [show n / 128 / 128 = n / 16384 by omega]; rfl
  rw [if_neg h3, if_neg (show ¬ n / 128 < 16384 by omega)]
  by_cases h4 : n < 268435456
  · rw [if_pos h4, if_pos (show n / 128 < 2097152 by omega)]
    refine ⟨[uB (n / 128 / 16384 + 128), uB (n / 128 / 128 % 128 + 128)], n / 128 % 128, by omega, rfl, ?_⟩
    rw [show n / 128 / 128 = n / 16384 by omega, show n / 128 / 16384 = n / 2097152 by omega]; rfl
  rw [if_neg h4, if_neg (show ¬ n / 128 < 2097152 by omega), if_pos (show n / 128 < 268435456 by omega)]
  refine ⟨[uB (n / 128 / 2097152 + 128), uB (n / 128 / 16384 % 128 + 128), uB (n / 128 / 128 % 128 + 128)], n / 128 % 128, by omega, rfl, ?_⟩
  rw [show n / 128 / 128 = n / 16384 by omega, show n / 128 / 16384 = n / 2097152 by omega, show n / 128 / 2097152 = n / 268435456 % 128 by omega]; rfl
end Go.Proofs.YtbejolbknimmmaaDoor
/- Logs on lists: an entry's bytes, the chain, what stands on a disk. The chain's step is a variable: no digest is named, and no program. -/
namespace Go.Proofs.YtbejolbknimmmaaDoor
set_option maxRecDepth 8000
set_option linter.all false
section
variable {H : Type} (nx : H → List UInt8 → H) (mk : H → List UInt8)
/-- An entry that may be. -/
def okE (e : List UInt8) : Prop := 1 ≤ e.length ∧ e.length ≤ 2000
/-- An entry's bytes behind the chain c. -/
def entL (c : H) (e : List UInt8) : List UInt8 := numL e.length ++ e ++ mk (nx c e)
/-- Entries' bytes, one behind the other. -/
def encL : H → List (List UInt8) → List UInt8
  | _, [] => []
  | c, e :: es => entL nx mk c e ++ encL (nx c e) es
/-- The chain behind entries. -/
def chL (c : H) (es : List (List UInt8)) : H := es.foldl nx c
theorem chL_snoc (c : H) (es : List (List UInt8)) (e : List UInt8) : chL nx c (es ++ [e]) = nx (chL nx c es) e := by simp [chL]
theorem encL_app (es fs : List (List UInt8)) : ∀ c, encL nx mk c (es ++ fs) = encL nx mk c es ++ encL nx mk (chL nx c es) fs := by
  induction es with
  | nil => intro c; rfl
  | cons e es ih => intro c; simp only [List.cons_append, encL, ih, List.append_assoc]; rfl
theorem encL_snoc (c : H) (es : List (List UInt8)) (e : List UInt8) : encL nx mk c (es ++ [e]) = encL nx mk c es ++ entL nx mk (chL nx c es) e := by
  rw [encL_app]; simp [encL]
/-- Of two numbers at one place one is the other. -/
theorem numL_inj {n m : Nat} (hn : n ≤ 2147483647) (hm : m ≤ 2147483647) {r r' : List UInt8} (h : numL n ++ r = numL m ++ r') : n = m ∧ r = r' := by
  have h1 := goN_put n hn r
  have h2 := goN_put m hm r'
  rw [h, h2] at h1
  have e : m = n := by injection h1
  subst e
  exact ⟨rfl, List.append_cancel_left h⟩
/-- No two entries stand at one place. -/
theorem entL_inj {c : H} {e e' : List UInt8} (h : okE e) (h' : okE e') {S : List UInt8} (p : entL nx mk c e <+: S) (p' : entL nx mk c e' <+: S) : e = e' := by
  obtain ⟨r, rfl⟩ := p
  obtain ⟨r', p'⟩ := p'
  unfold entL at p'
  simp only [List.append_assoc] at p'
  obtain ⟨h1, h2⟩ := numL_inj (by have := h'.2; omega) (by have := h.2; omega) p'
  have h3 := congrArg (List.take e.length) h2
  rw [List.take_left, ← h1, List.take_left] at h3
  exact h3.symm
/-- The entries es are the log of the bytes S: they stand there, and no further one does. -/
structure IsLog (c : H) (S : List UInt8) (es : List (List UInt8)) : Prop where
  ok : ∀ e ∈ es, okE e
  at' : encL nx mk c es <+: S
  max : ∀ e, okE e → ¬ encL nx mk c (es ++ [e]) <+: S
/-- Entries that stand at one place: the fewer ones begin the others. -/
theorem enc_prefix : ∀ (es fs : List (List UInt8)) (c : H) (S : List UInt8), (∀ e ∈ es, okE e) → (∀ e ∈ fs, okE e) → encL nx mk c es <+: S → encL nx mk c fs <+: S → es.length ≤ fs.length → es <+: fs
  | [], _, _, _, _, _, _, _, _ => List.nil_prefix
  | _ :: _, [], _, _, _, _, _, _, h => by simp at h
  | e :: es, f :: fs, c, S, h1, h2, h3, h4, h5 => by
    simp only [encL] at h3 h4
    have he : e = f := entL_inj nx mk (h1 e (by simp)) (h2 f (by simp)) ((List.prefix_append _ _).trans h3) ((List.prefix_append _ _).trans h4)
    subst he
    obtain ⟨r, rfl⟩ := h3
    rw [List.append_assoc, List.prefix_append_right_inj] at h4
    have := enc_prefix es fs (nx c e) _ (fun x hx => h1 x (by simp [hx])) (fun x hx => h2 x (by simp [hx])) (List.prefix_append _ r) h4 (by simpa using h5)
    exact (List.prefix_append_right_inj [e]).2 this
theorem IsLog.unique {c : H} {S : List UInt8} {es fs : List (List UInt8)} (h : IsLog nx mk c S es) (k : IsLog nx mk c S fs) : es = fs := by
  have aux : ∀ {es fs : List (List UInt8)}, IsLog nx mk c S es → IsLog nx mk c S fs → es.length ≤ fs.length → es = fs := by
    intro es fs h k hl
    obtain ⟨gs, rfl⟩ := enc_prefix nx mk es fs c S h.ok k.ok h.at' k.at' hl
    cases gs with
    | nil => simp
    | cons g gs =>
      exfalso
      refine h.max g (k.ok g (by simp)) ?_
      have := k.at'
      rw [show es ++ g :: gs = (es ++ [g]) ++ gs by simp, encL_app] at this
      exact (List.prefix_append _ _).trans this
  rcases Nat.le_total es.length fs.length with hl | hl
  · exact aux h k hl
  · exact (aux k h hl).symm
theorem entL_pos (c : H) (e : List UInt8) : 1 ≤ (entL nx mk c e).length := by
  unfold entL; rw [List.length_append, List.length_append, numL_length]; have := sz_pos e.length; omega
/-- How many of the entries are whole within the first k bytes. -/
def whole (k : Nat) : H → List (List UInt8) → Nat
  | _, [] => 0
  | c, e :: es => if (entL nx mk c e).length ≤ k then whole (k - (entL nx mk c e).length) (nx c e) es + 1 else 0
theorem whole_le : ∀ (es : List (List UInt8)) (k : Nat) (c : H), whole nx mk k c es ≤ es.length
  | [], _, _ => Nat.le_refl _
  | e :: es, k, c => by
    unfold whole
    split
    · have := whole_le es (k - (entL nx mk c e).length) (nx c e); simp; omega
    · simp
theorem whole_fits : ∀ (es : List (List UInt8)) (k : Nat) (c : H), (encL nx mk c (es.take (whole nx mk k c es))).length ≤ k
  | [], _, _ => by simp [whole, encL]
  | e :: es, k, c => by
    unfold whole
    split
    case isTrue h =>
      rw [List.take_succ_cons, encL, List.length_append]
      have := whole_fits es (k - (entL nx mk c e).length) (nx c e)
      omega
    case isFalse h => simp [encL]
theorem whole_most : ∀ (es : List (List UInt8)) (k j : Nat) (c : H), j ≤ es.length → (encL nx mk c (es.take j)).length ≤ k → j ≤ whole nx mk k c es
  | [], _, j, _, h, _ => by simp at h; omega
  | e :: es, k, 0, c, _, _ => Nat.zero_le _
  | e :: es, k, j + 1, c, h, hk => by
    rw [List.take_succ_cons, encL, List.length_append] at hk
    unfold whole
    rw [if_pos (by omega)]
    have := whole_most es (k - (entL nx mk c e).length) j (nx c e) (by simpa using h) (by omega)
    omega
/-- A disk that has but the first bytes of a log has its first entries, those that are whole there. -/
theorem torn (c : H) (es : List (List UInt8)) (k : Nat) (hk : k ≤ (encL nx mk c es).length) (hok : ∀ e ∈ es, okE e) : IsLog nx mk c ((encL nx mk c es).take k) (es.take (whole nx mk k c es)) := by
  have hp : encL nx mk c (es.take (whole nx mk k c es)) <+: encL nx mk c es := by
    conv => rhs; rw [← List.take_append_drop (whole nx mk k c es) es, encL_app]
    exact List.prefix_append _ _
  refine ⟨fun e he => hok e (List.mem_of_mem_take he), ?_, fun e he hpe => ?_⟩
  · rw [List.prefix_take_iff]
    exact ⟨hp, whole_fits nx mk es k c⟩
  · rw [List.prefix_take_iff] at hpe
    have h1 : es.take (whole nx mk k c es) ++ [e] <+: es := by
      refine enc_prefix nx mk _ es c (encL nx mk c es) (fun x hx => ?_) hok hpe.1 (List.prefix_refl _) ?_
      · rcases List.mem_append.1 hx with hx | hx
        · exact hok x (List.mem_of_mem_take hx)
        · simp at hx; subst hx; exact he
      · rw [List.length_append, List.length_take, Nat.min_eq_left (whole_le nx mk es k c)]
        rcases Nat.lt_or_ge (whole nx mk k c es) es.length with h | h
        · simp; omega
        · exfalso
          rw [List.take_of_length_le h, encL_snoc, List.prefix_iff_eq_take] at hpe
          have := congrArg List.length hpe.1
          rw [List.length_take, List.length_append] at this
          have := entL_pos nx mk (chL nx c es) e
          omega
    have h2 := h1.length_le
    rw [List.length_append, List.length_take, Nat.min_eq_left (whole_le nx mk es k c)] at h2
    have h3 := whole_most nx mk es k (whole nx mk k c es + 1) c (by simpa using h2) (by
      have h4 := List.prefix_iff_eq_take.1 h1
      rw [List.length_append, List.length_take, Nat.min_eq_left (whole_le nx mk es k c)] at h4
      rw [show ([e] : List (List UInt8)).length = 1 from rfl] at h4
      rw [← h4]
      exact hpe.2)
    omega
/-- A disk whose bytes are an opened log's is opened as that. -/
theorem again (c : H) (es : List (List UInt8)) (hok : ∀ e ∈ es, okE e) : IsLog nx mk c (encL nx mk c es) es := by
  have h := torn nx mk c es (encL nx mk c es).length (Nat.le_refl _) hok
  rw [List.take_length] at h
  have h1 := whole_most nx mk es (encL nx mk c es).length es.length c (Nat.le_refl _) (by rw [List.take_length]; exact Nat.le_refl _)
  rwa [List.take_of_length_le h1] at h
/-- Behind a crash a log has the entries that were synced, and a beginning of those that were written since. -/
theorem crash_log (c : H) (es fs : List (List UInt8)) (k : Nat) (hk : k ≤ (encL nx mk c (es ++ fs)).length) (hs : (encL nx mk c es).length ≤ k) (hok : ∀ e ∈ es ++ fs, okE e) :
    ∃ j, j ≤ fs.length ∧ IsLog nx mk c ((encL nx mk c (es ++ fs)).take k) (es ++ fs.take j) := by
  have h := torn nx mk c (es ++ fs) k hk hok
  have h1 := whole_most nx mk (es ++ fs) k es.length c (by simp) (by rw [List.take_left]; exact hs)
  have h2 := whole_le nx mk (es ++ fs) k c
  rw [List.length_append] at h2
  refine ⟨whole nx mk k c (es ++ fs) - es.length, by omega, ?_⟩
  rwa [List.take_append, List.take_of_length_le h1] at h
/-- A step of reading: the entry that stands there, if one does. -/
theorem IsLog.next {c : H} {S : List UInt8} {es : List (List UInt8)} {e : List UInt8} (he : okE e) (h : IsLog nx mk (nx c e) S es) : IsLog nx mk c (entL nx mk c e ++ S) (e :: es) := by
  refine ⟨fun x hx => ?_, ?_, fun x hx hp => ?_⟩
  · rcases List.mem_cons.1 hx with rfl | hx
    · exact he
    · exact h.ok x hx
  · rw [encL]; exact (List.prefix_append_right_inj _).2 h.at'
  · rw [List.cons_append, encL] at hp
    exact h.max x hx ((List.prefix_append_right_inj _).1 hp)
theorem IsLog.none {c : H} {S : List UInt8} (h : ∀ e, okE e → ¬ entL nx mk c e <+: S) : IsLog nx mk c S [] :=
  ⟨by simp, List.nil_prefix, fun e he hp => h e he (by simpa [encL] using hp)⟩
end
end Go.Proofs.YtbejolbknimmmaaDoor
/- Fields of a struct by value and in memory: a cell, a row of cells. No program is named here. -/
namespace Go.Proofs.YtbejolbknimmmaaDoor
open Go Go.RowKit
set_option maxRecDepth 8000
set_option linter.all false

theorem rowA_extract (n : Nat) (g : Nat → Value) (o m : Nat) (h : o + m ≤ n) : (rowA n g).extract o (o + m) = rowA m fun j => g (o + j) := by
  apply Array.ext_getElem?
  intro i
  by_cases hi : i < m
  · rw [rowA_at _ _ _ hi, Array.getElem?_extract_of_lt (by rw [rowA_size]; omega), ← Array.getElem?_eq_getElem, rowA_at _ _ _ (by omega)]
  · rw [Array.getElem?_eq_none (by simp [rowA_size]; omega), Array.getElem?_eq_none (by rw [rowA_size]; omega)]
section
variable {P : Program} {t : TypeId} {fs : Array Field} {f : Field} {i n : Nat}
theorem run_isAgg_no {d : TypeDesc} {e : TypeId} (he : P.underlying e = some d) (hd : d.isRow = false) (w : World) : (isAgg e).run P w = .ok false w := by
  unfold isAgg
  rw [Sem.run_bind, run_underlying he w]
  cases d <;> simp_all
theorem run_field_cell {d : TypeDesc} (hu : P.underlying t = some (.struct fs)) (hf : fs[i]? = some f) (he : P.underlying f.type = some d) (hd : d.isRow = false) (g : Nat → Value) (ho : f.offset < n) (w : World) : (Instr.field t (.agg (rowA n g)) i).run P w = .ok (g f.offset) w := by
  have hat := rowA_at n g f.offset ho
  simp [Instr.field, run_underlying hu, hf, asAgg, part, run_isAgg_no he hd, hat]
theorem run_field_row {m : Nat} {e : TypeId} (hu : P.underlying t = some (.struct fs)) (hf : fs[i]? = some f) (he : P.underlying f.type = some (.array m e)) (hs : (P.info? f.type).map (·.size) = some m) (g : Nat → Value) (ho : f.offset + m ≤ n) (w : World) : (Instr.field t (.agg (rowA n g)) i).run P w = .ok (.agg (rowA m fun j => g (f.offset + j))) w := by
  have hsz : (sizeOf f.type).run P w = .ok m w := by
    cases hq : P.info? f.type with
    | none => simp [hq] at hs
    | some i => simp [hq] at hs; simp [sizeOf, typeInfo, hq, hs]
  have hagg : (isAgg f.type).run P w = .ok true w := by
    unfold isAgg
    rw [Sem.run_bind, run_underlying he w]
    rfl
  have hx := rowA_extract n g f.offset m ho
  simp [Instr.field, run_underlying hu, hf, asAgg, part, hagg, hsz, hx]
end
/-- A part of a row. -/
theorem rangeAt_part {w : World} {b : Nat} {t : TypeId} {n : Nat} {f : Nat → Value} (h : w.rowIs b t n f) (o m : Nat) (hm : o + m ≤ n) : w.rangeAt b o (rowA m fun j => f (o + j)).toList := fun j v hv => by
  rw [rowA_toList, List.getElem?_map] at hv
  cases hj : (List.range m)[j]? with
  | none => rw [hj] at hv; simp at hv
  | some k =>
    rw [hj] at hv
    obtain ⟨hlt, hk⟩ := List.getElem?_eq_some_iff.1 hj
    simp at hlt hk
    subst hk
    simp at hv
    subst hv
    exact h.cell (by omega)
end Go.Proofs.YtbejolbknimmmaaDoor
/- A region that draws its order, whose last operations come one behind the other: the rest is gone through once, in the text's order, and the last ones then as they stand. No program is named here. -/
namespace Go.Proofs.YtbejolbknimmmaaDoor
open Go
set_option maxRecDepth 8000
set_option linter.all false

section
variable {P : Program} {ops : Array Oper} {Q : Exit → Act → World → Prop} {T : World → World → Prop} {V : List (SV T)} {a0 : Act} {w0 : World} {n : Nat} {D : Deps} {init tail : List Oper}

theorem split_at (hsplit : ops.toList = init ++ tail) : ops.size = init.length + tail.length ∧ (∀ (k : Nat) (o : Oper), init[k]? = some o → ops[k]? = some o) ∧ ∀ k : Nat, ops[init.length + k]? = tail[k]? := by
  have e : ops = (init ++ tail).toArray := by rw [← hsplit]
  subst e
  refine ⟨by simp, fun k o hk => ?_, fun k => ?_⟩
  · have hlt := (List.getElem?_eq_some_iff.1 hk).1
    simp [List.getElem?_append_left hlt, hk]
  · simp [List.getElem?_append_right]
/-- The last ones look back alone, each waits for the one ahead. -/
def tailB (ops : Array Oper) (tail : List Oper) (m : Nat) : Bool :=
  (List.range tail.length).all fun t => (match tail[t]? with | some o => o.after.all (fun e => !Region.binds .any e || decide (e.on < m + t)) | none => true) && (decide (t = 0) || Region.waitsFor .any ops (m + t) (m + t - 1))

theorem tail_seq (hsplit : ops.toList = init ++ tail) (hB : tailB ops tail init.length = true) : ∀ (f k : Nat) (listed : Array Bool) (a : Act) (w : World), k + f = tail.length → listed.size = ops.size →
    (∀ j, j < init.length + k → listed.getD j false = true) → (∀ j, init.length + k ≤ j → j < ops.size → listed.getD j true = false) → wpList P ops Q (tail.drop k) a w → wpAny P .any ops Q f listed a w := by
  obtain ⟨hsz, _, htl⟩ := split_at hsplit
  have hb : ∀ t, t < tail.length → (∀ o, tail[t]? = some o → ∀ e ∈ o.after, Region.binds .any e = true → e.on < init.length + t) ∧ (t = 0 ∨ Region.waitsFor .any ops (init.length + t) (init.length + t - 1) = true) := fun t ht => by
    have h := List.all_eq_true.1 hB t (List.mem_range.2 ht)
    simp only [Bool.and_eq_true, Bool.or_eq_true, decide_eq_true_eq] at h
    refine ⟨fun o ho e he hbe => ?_, h.2⟩
    have h1 := h.1
    rw [ho] at h1
    have h2 := (Array.all_eq_true_iff_forall_mem.1 h1) e he
    simpa [hbe] using h2
  intro f
  induction f with
  | zero =>
    intro k listed a w hk hs hdone _ h
    obtain rfl : k = tail.length := by omega
    rw [List.drop_length] at h
    exact wpAny_done (ready_none fun i hi => hdone i (by omega)) h 0
  | succ f ih =>
    intro k listed a w hk hs hdone hun h
    have hkl : k < tail.length := by omega
    have ho : ops[init.length + k]? = some tail[k] := by rw [htl, List.getElem?_eq_getElem hkl]
    rw [List.drop_eq_getElem_cons hkl] at h
    have hmem : init.length + k ∈ Region.ready .any ops listed := by
      rw [mem_ready]
      exact ⟨hun _ (Nat.le_refl _) (by omega), tail[k], ho, fun e he hbe => hdone _ ((hb k hkl).1 _ (List.getElem?_eq_getElem hkl) e he hbe)⟩
    refine ⟨fun hr => (by rw [hr] at hmem; cases hmem), fun i hi => ?_⟩
    obtain ⟨h0, o, hoi, hall⟩ := mem_ready.1 hi
    have hilt := (Array.getElem?_eq_some_iff.1 hoi).1
    have hik : i = init.length + k := by
      rcases Nat.lt_trichotomy i (init.length + k) with hlt | rfl | hgt
      · have := hdone i hlt
        rw [getD_both h0] at this; cases this
      · rfl
      · exfalso
        have ht := (hb (i - init.length) (by omega)).2
        rw [show init.length + (i - init.length) = i by omega] at ht
        rcases ht with ht | ht
        · omega
        · obtain ⟨oi, hoi', e, he, hbe, hon⟩ := Region.waitsFor_spec ht
          have : oi = o := Option.some.inj (hoi'.symm.trans hoi)
          subst this
          have h1 := hall e he hbe
          rw [hon, getD_both (hun (i - 1) (by omega) (by omega))] at h1
          cases h1
    subst hik
    have next : ∀ a' w', wpList P ops Q (tail.drop (k + 1)) a' w' → wpAny P .any ops Q f (listed.setIfInBounds (init.length + k) true) a' w' := fun a' w' h' =>
      ih (k + 1) _ a' w' (by omega) (by simp [hs]) (fun j hj => by
        by_cases hjk : init.length + k = j
        · subst hjk; simp [show init.length + k < listed.size by omega]
        · exact getD_set_true (hdone j (by omega))) (fun j hj hj2 => by rw [getD_set_ne true (by omega)]; exact hun j (by omega) hj2) h'
    refine wpOp_mono next ?_
    unfold wpOp
    simp only [ho]
    simpa only [wpList] using h

theorem wpAny_rely_tail (hsplit : ops.toList = init ++ tail) (hpos : 0 < tail.length) (hn : a0.tmps.size = n) (hB : relyB ops n 0 init D = true) (hsink : Region.sinkB .any ops init.length = true) (htb : tailB ops tail init.length = true) (ht : ∀ a b c : World, T a b → T b c → T a c)
    (hl : init.length ≤ V.length) (hA : relyAll P Q T V a0 w0 init D V) (hE : ∀ w, T w0 w → relyEnd (fun _ a w => wpList P ops Q tail a w) T init V a0 w) :
    ∀ (fuel : Nat) (listed : Array Bool) (a : Act) (w : World), (unl ops listed).length = fuel → (∀ j, init.length ≤ j → j < ops.size → listed.getD j true = false) → RelyInv ops T V a0 w0 listed a w → wpAny P .any ops Q fuel listed a w := by
  obtain ⟨hsz, hpre, htl⟩ := split_at hsplit
  have hat : ∀ i o, init[i]? = some o → ∃ dp g, relyOne ops n i o dp g = true ∧ relyStep P Q T V a0 w0 o dp g (V.getD i SV.any) := fun i o hi => by
    obtain ⟨dp, g, hD, h1⟩ := relyB_at init D 0 i o hB hi
    rw [Nat.zero_add] at h1
    exact ⟨dp, g, h1, relyAll_at _ _ _ i o dp g hA hi hD⟩
  -- once all of the first ones have come up
  have fin : ∀ (fuel : Nat) (listed : Array Bool) (a : Act) (w : World), (unl ops listed).length = fuel → (∀ j, init.length ≤ j → j < ops.size → listed.getD j true = false) → RelyInv ops T V a0 w0 listed a w → (∀ j, j < init.length → listed.getD j false = true) → wpAny P .any ops Q fuel listed a w := fun fuel listed a w hu hun inv hdone => by
    have h1 : wpList P ops Q tail a w := rely_all (Q' := fun a w => wpList P ops Q tail a w) inv
      (fun k o hk => ⟨hpre k o hk, hdone k (List.getElem?_eq_some_iff.1 hk).1⟩) (fun j hj => by
        rcases Nat.lt_or_ge j init.length with h | h
        · exact h
        · rcases Nat.lt_or_ge j ops.size with h' | h'
          · rw [getD_both (hun j h h')] at hj; cases hj
          · have : listed.getD j false = false := by simp [Array.getElem?_eq_none (show listed.size ≤ j by rw [inv.size]; omega)]
            rw [this] at hj; cases hj) hl (hE w inv.now)
    have hf : fuel = tail.length := by
      rw [← hu]
      unfold unl
      have e : (List.range ops.size).filter (fun i => !listed.getD i true) = List.range' init.length tail.length := by
        rw [List.range_eq_range', show ops.size = init.length + tail.length from hsz, ← List.range'_append_1, List.filter_append, List.filter_eq_nil_iff.2, List.filter_eq_self.2]
        · simp
        · intro i hi
          simp only [List.mem_range'_1] at hi
          rw [hun i (by omega) (by omega)]; rfl
        · intro i hi
          simp only [List.mem_range'_1] at hi
          have h2 := hdone i (by omega)
          have h3 : listed.getD i true = true := by
            have hlt : i < listed.size := by rw [inv.size]; omega
            simp [hlt] at h2 ⊢; exact h2
          rw [h3]; simp
      rw [e]; simp
    subst hf
    exact tail_seq hsplit htb tail.length 0 listed a w (by omega) inv.size (by simpa using hdone) (by simpa using hun) (by simpa using h1)
  intro fuel
  induction fuel with
  | zero =>
    intro listed a w hu hun inv
    have : init.length ∈ unl ops listed := by
      unfold unl; rw [List.mem_filter]; exact ⟨List.mem_range.2 (by omega), by rw [hun _ (Nat.le_refl _) (by omega)]; rfl⟩
    rw [List.eq_nil_of_length_eq_zero hu] at this
    cases this
  | succ fuel ih =>
    intro listed a w hu hun inv
    by_cases hdone : ∀ j, j < init.length → listed.getD j false = true
    · exact fin _ listed a w hu hun inv hdone
    · -- none of the last ones may come up yet
      have hlow : ∀ i, i ∈ Region.ready .any ops listed → i < init.length := fun i hi => by
        rcases Nat.lt_or_ge i init.length with h | h
        · exact h
        · exfalso
          obtain ⟨h0, o, ho, hall⟩ := mem_ready.1 hi
          have hilt := (Array.getElem?_eq_some_iff.1 ho).1
          by_cases him : i = init.length
          · subst him
            apply hdone
            have hd : ∀ (d j : Nat), init.length - j = d → j < init.length → listed.getD j false = true := fun d => by
              induction d using Nat.strongRecOn with
              | _ d ihd =>
                intro j hd hj
                have h1 := List.all_eq_true.1 hsink j (List.mem_range.2 hj)
                obtain ⟨t, ht1, ht2⟩ := List.any_eq_true.1 h1
                simp only [Bool.and_eq_true, decide_eq_true_eq] at ht2
                obtain ⟨ot, hot, e, he, hb, hon⟩ := Region.waitsFor_spec ht2.2
                have htle : t ≤ init.length := by have := List.mem_range.1 ht1; omega
                rw [← hon]
                by_cases htm : t = init.length
                · subst htm
                  have : ot = o := Option.some.inj (hot.symm.trans ho)
                  subst this
                  exact hall e he hb
                · exact inv.closed t ot hot (ihd (init.length - t) (by omega) t rfl (by omega)) e he hb
            exact fun j hj => hd _ j rfl hj
          · have h := List.all_eq_true.1 htb (i - init.length) (List.mem_range.2 (by omega))
            simp only [Bool.and_eq_true, Bool.or_eq_true, decide_eq_true_eq] at h
            rw [show init.length + (i - init.length) = i by omega] at h
            rcases h.2 with h | h
            · omega
            · obtain ⟨oi, hoi', e, he, hbe, hon⟩ := Region.waitsFor_spec h
              have : oi = o := Option.some.inj (hoi'.symm.trans ho)
              subst this
              have h1 := hall e he hbe
              rw [hon, getD_both (hun (i - 1) (by omega) (by omega))] at h1
              cases h1
      refine ⟨fun hr => ?_, fun i hi => ?_⟩
      · exfalso
        apply hdone
        intro i
        induction i using Nat.strongRecOn with
        | _ i ih =>
          intro hi
          cases hli : listed.getD i false with
          | true => rfl
          | false =>
            exfalso
            have hmem : i ∈ Region.ready .any ops listed := by
              rw [mem_ready]
              refine ⟨getD_in (by rw [inv.size]; omega) hli, init[i], hpre i _ (List.getElem?_eq_getElem hi), fun e he hb => ?_⟩
              obtain ⟨dp, g, h1, _⟩ := hat i init[i] (List.getElem?_eq_getElem hi)
              simp only [relyOne, Bool.and_eq_true] at h1
              have h2 := (Array.all_eq_true_iff_forall_mem.1 h1.1.1.2) e he
              simp only [hb, Bool.not_true, Bool.false_or, decide_eq_true_eq] at h2
              exact ih e.on h2 (by omega)
            rw [hr] at hmem
            cases hmem
      · have hi' := hlow i hi
        obtain ⟨h0, o, ho, hall⟩ := mem_ready.1 hi
        have hio : init[i]? = some o := by
          have := hpre i init[i] (List.getElem?_eq_getElem hi')
          rw [ho] at this
          rw [List.getElem?_eq_getElem hi', Option.some.inj this]
        obtain ⟨dp, g, h1, hstep⟩ := hat i o hio
        refine wpOp_mono (fun a' w' inv' => ih _ a' w' (by have := unl_set inv.size h0; omega) (fun j hj hj2 => by rw [getD_set_ne true (by omega)]; exact hun j hj hj2) inv') (rely_op hn ht ho h1 hstep h0 hall inv)
/-- **A region that draws its order, the last operations (from place m on) one behind the other.** -/
theorem wp_region_rely_tail {id : Nat} (T : World → World → Prop) (V : List (SV T)) (D : Deps) (n m : Nat) (hm : P.follows .mixedOrders = true) (hn : a0.tmps.size = n) (hlen : (ops.toList.take m).length = m) (hpos : 0 < (ops.toList.drop m).length) (hB : relyB ops n 0 (ops.toList.take m) D = true)
    (hsink : Region.sinkB .any ops m = true) (htb : tailB ops (ops.toList.drop m) m = true) (ht : ∀ a b c : World, T a b → T b c → T a c) (hd : T w0 w0.drew) (hl : m ≤ V.length)
    (hA : relyAll P Q T V a0 w0 (ops.toList.take m) D V) (hE : ∀ w, T w0 w → relyEnd (fun _ a w => wpList P ops Q (ops.toList.drop m) a w) T (ops.toList.take m) V a0 w) : (Code.region id ops true).wp P Q a0 w0 := by
  refine wp_region_any hm ?_
  refine wpAny_rely_tail (List.take_append_drop m ops.toList).symm hpos hn hB (by rw [hlen]; exact hsink) (by rw [hlen]; exact htb) ht (by rw [hlen]; exact hl) hA hE ops.size _ a0 w0.drew unl_start (fun j _ hj => by simp [hj]) (rely_start hd)
end
end Go.Proofs.YtbejolbknimmmaaDoor
/- A region in the text's order, gone through once: each operation has a condition on its value that later steps keep; beside them a relation on the world that steps on with the operations; the last operations may be left as they stand. No program is named here. -/
namespace Go.Proofs.YtbejolbknimmmaaDoor
open Go
set_option maxRecDepth 8000
set_option linter.all false

def seqStep (P : Program) (Q : Exit → Act → World → Prop) (T : World → World → Prop) (V : List (SV T)) (J : Nat → World → Prop) (a0 : Act) (w0 : World) (i : Nat) (o : Oper) (dp : List (Tmp × Option Nat)) (g : Option (Tmp × Bool)) (c : SV T) : Prop :=
  ∀ (a : Act) (w : World), T w0 w → relyFacts V a0 a w dp → J i w → ∀ K : Act → World → Prop, (∀ v w', T w w' → J (i + 1) w' → c.pred v w' → K (a.put o.dst v) w') →
    if relyGuard g a then o.wp P a w K Q else K (a.put o.dst undef) w
def seqAll (P : Program) (Q : Exit → Act → World → Prop) (T : World → World → Prop) (V : List (SV T)) (J : Nat → World → Prop) (a0 : Act) (w0 : World) : Nat → List Oper → Deps → List (SV T) → Prop
  | _, [], _, _ => True
  | i, o :: r, (dp, g) :: D, c :: C => seqStep P Q T V J a0 w0 i o dp g c ∧ seqAll P Q T V J a0 w0 (i + 1) r D C
  | _, _, _, _ => False
def seqOne (ops : Array Oper) (n m : Nat) (i : Nat) (o : Oper) (dp : List (Tmp × Option Nat)) (g : Option (Tmp × Bool)) : Bool :=
  (match o.dst with | some d => decide (d < n) && (List.range m).all (fun j => decide (j = i) || relyDst ops j != some d) | none => true) &&
  (dp.all fun x => match x.2 with
    | some j => relyDst ops j == some x.1 && decide (j < i)
    | none => (List.range i).all fun j => relyDst ops j != some x.1) &&
  (match o.guard, g with
    | none, none => true
    | some (k, b), some (d, b') => b == b' && relyDst ops k == some d && decide (d < n)
    | _, _ => false)
def seqB (ops : Array Oper) (n m : Nat) : Nat → List Oper → Deps → Bool
  | _, [], _ => true
  | i, o :: r, (dp, g) :: D => seqOne ops n m i o dp g && seqB ops n m (i + 1) r D
  | _, _, _ => false
section
variable {P : Program} {ops : Array Oper} {Q : Exit → Act → World → Prop} {T : World → World → Prop} {V : List (SV T)} {J : Nat → World → Prop} {a0 : Act} {w0 : World} {n m : Nat} {D : Deps} {init tail : List Oper}
theorem seqB_at : ∀ (l : List Oper) (D : Deps) (i k : Nat) (o : Oper), seqB ops n m i l D = true → l[k]? = some o → ∃ dp g, D[k]? = some (dp, g) ∧ seqOne ops n m (i + k) o dp g = true
  | [], _, _, _, _, _, h => by simp at h
  | x :: r, [], _, _, _, h, _ => by simp [seqB] at h
  | x :: r, (dp, g) :: D, i, 0, o, h, ho => by
    simp only [seqB, Bool.and_eq_true] at h
    simp at ho
    subst ho
    exact ⟨dp, g, rfl, h.1⟩
  | x :: r, (dp, g) :: D, i, k + 1, o, h, ho => by
    simp only [seqB, Bool.and_eq_true] at h
    obtain ⟨dp', g', hD, h'⟩ := seqB_at r D (i + 1) k o h.2 (by simpa using ho)
    exact ⟨dp', g', by simpa using hD, by rw [show i + (k + 1) = i + 1 + k by omega]; exact h'⟩
theorem seqAll_at : ∀ (l : List Oper) (D : Deps) (C : List (SV T)) (i k : Nat) (o : Oper) dp g, seqAll P Q T V J a0 w0 i l D C → l[k]? = some o → D[k]? = some (dp, g) → seqStep P Q T V J a0 w0 (i + k) o dp g (C.getD k SV.any)
  | [], _, _, _, _, _, _, _, _, h, _ => by simp at h
  | x :: r, [], _, _, _, _, _, _, h, _, _ => h.elim
  | x :: r, y :: D, [], _, _, _, _, _, h, _, _ => h.elim
  | x :: r, (dp, g) :: D, c :: C, i, 0, o, dp', g', h, ho, hD => by
    simp at ho hD
    obtain ⟨rfl, rfl⟩ := hD
    subst ho
    exact h.1
  | x :: r, (dp, g) :: D, c :: C, i, k + 1, o, dp', g', h, ho, hD => by
    have := seqAll_at r D C (i + 1) k o dp' g' h.2 (by simpa using ho) (by simpa using hD)
    rw [show i + (k + 1) = i + 1 + k by omega]
    simpa using this
structure SeqInv (ops : Array Oper) (T : World → World → Prop) (V : List (SV T)) (J : Nat → World → Prop) (a0 : Act) (w0 : World) (k : Nat) (a : Act) (w : World) : Prop where
  now : T w0 w
  at_ : J k w
  slots : a.tmps.size = a0.tmps.size
  defers : a.defers = a0.defers
  new : ∀ j d, j < k → relyDst ops j = some d → (V.getD j SV.any).pred (a.tmps.getD d undef) w
  old : ∀ d, (∀ j, j < k → relyDst ops j ≠ some d) → a.tmps.getD d undef = a0.tmps.getD d undef
theorem seq_op (hn : a0.tmps.size = n) (ht : ∀ a b c : World, T a b → T b c → T a c) {i : Nat} {o : Oper} {dp : List (Tmp × Option Nat)} {g : Option (Tmp × Bool)} {a : Act} {w : World}
    (him : i < m) (ho : ops[i]? = some o) (h1 : seqOne ops n m i o dp g = true) (hstep : seqStep P Q T V J a0 w0 i o dp g (V.getD i SV.any)) (inv : SeqInv ops T V J a0 w0 i a w) :
    wpOp P ops Q i (fun a' w' => SeqInv ops T V J a0 w0 (i + 1) a' w') a w := by
  simp only [seqOne, Bool.and_eq_true] at h1
  obtain ⟨⟨hdst, hdp⟩, hg⟩ := h1
  have hfacts : relyFacts V a0 a w dp := by
    clear hstep
    induction dp with
    | nil => trivial
    | cons x r ih2 =>
      simp only [List.all_cons, Bool.and_eq_true] at hdp
      obtain ⟨hx, hr⟩ := hdp
      obtain ⟨d, j⟩ := x
      cases j with
      | some j =>
        simp only [Bool.and_eq_true, beq_iff_eq, decide_eq_true_eq] at hx
        exact ⟨inv.new j d hx.2 hx.1, ih2 hr⟩
      | none =>
        refine ⟨inv.old d fun j hj => ?_, ih2 hr⟩
        simpa using List.all_eq_true.1 hx j (List.mem_range.2 hj)
  have hguard : Region.wanted o (yielded ops a.tmps) = relyGuard g a := by
    unfold Region.wanted
    cases hgo : o.guard with
    | none =>
      rw [hgo] at hg
      cases g with
      | none => rfl
      | some x => cases hg
    | some kb =>
      obtain ⟨k, b⟩ := kb
      rw [hgo] at hg
      cases g with
      | none => cases hg
      | some x =>
        obtain ⟨d, b'⟩ := x
        simp only [Bool.and_eq_true, beq_iff_eq, decide_eq_true_eq] at hg
        obtain ⟨⟨rfl, hd⟩, hlt⟩ := hg
        have hlt' : d < a.tmps.size := by rw [inv.slots, hn]; exact hlt
        have hd' : (ops[k]?).bind (·.dst) = some d := hd
        simp only [yielded, hd', Option.bind_some, relyGuard, Array.getD_eq_getD_getElem?, Array.getElem?_eq_getElem hlt', Option.getD_some]
        cases a.tmps[d] <;> simp
        all_goals (rename_i x; cases x <;> cases b <;> rfl)
  have next : ∀ v w', T w w' → J (i + 1) w' → (V.getD i SV.any).pred v w' → SeqInv ops T V J a0 w0 (i + 1) (a.put o.dst v) w' := fun v w' hT hJ hv => by
    refine ⟨ht _ _ _ inv.now hT, hJ, by cases o.dst <;> simp [Act.put, inv.slots], by cases o.dst <;> simp [Act.put, inv.defers], fun j d hji hj => ?_, fun d hno => ?_⟩
    · by_cases hij : i = j
      · subst hij
        have hd : o.dst = some d := by simpa [relyDst, ho] using hj
        rw [hd] at hdst
        simp only [Bool.and_eq_true, decide_eq_true_eq] at hdst
        have hlt : d < a.tmps.size := by rw [inv.slots, hn]; exact hdst.1
        rw [hd]
        simpa [Act.put, hlt] using hv
      · have h3 := (V.getD j SV.any).stable _ _ _ (inv.new j d (by omega) hj) hT
        cases hod : o.dst with
        | none => exact h3
        | some d0 =>
          rw [hod] at hdst
          simp only [Bool.and_eq_true, decide_eq_true_eq] at hdst
          have h4 := List.all_eq_true.1 hdst.2 j (List.mem_range.2 (by omega))
          simp only [Bool.or_eq_true, decide_eq_true_eq, bne_iff_ne, ne_eq] at h4
          have hne : d0 ≠ d := fun e => by
            subst e
            rcases h4 with h4 | h4
            · exact hij h4.symm
            · exact h4 hj
          simpa [Act.put, Array.getElem?_setIfInBounds_ne hne] using h3
    · have hni : o.dst ≠ some d := fun hd => hno i (by omega) (by simp [relyDst, ho, hd])
      have hold := inv.old d fun j hj => hno j (by omega)
      cases hod : o.dst with
      | none => exact hold
      | some d0 =>
        have hne : d0 ≠ d := fun e => hni (by rw [hod, e])
        simpa [Act.put, Array.getElem?_setIfInBounds_ne hne] using hold
  have hs := hstep a w inv.now hfacts inv.at_ _ next
  unfold wpOp
  simp only [ho, hguard]
  split
  · rename_i hw; rw [if_pos hw] at hs; exact .inl hs
  · rename_i hw; rw [if_neg hw] at hs; exact hs
theorem wpOps_tail : ∀ (t : List Oper) (k : Nat) (a : Act) (w : World), (∀ i : Nat, ops[k + i]? = t[i]?) → wpList P ops Q t a w → wpOps P ops Q (List.range' k t.length) a w
  | [], k, a, w, _, h => by simpa [wpOps, wpList] using h
  | o :: t, k, a, w, hk, h => by
    have hi : ops[k]? = some o := by simpa using hk 0
    rw [List.length_cons, List.range'_succ, wpOps_cons]
    refine wpOp_mono (fun a' w' h' => wpOps_tail t (k + 1) a' w' (fun i => by have := hk (i + 1); rw [show k + 1 + i = k + (i + 1) by omega]; simpa using this) h') ?_
    unfold wpOp
    simp only [hi]
    simpa only [wpList] using h
theorem wpOps_seq (hsplit : ops.toList = init ++ tail) (hn : a0.tmps.size = n) (hB : seqB ops n init.length 0 init D = true) (ht : ∀ a b c : World, T a b → T b c → T a c)
    (hl : init.length ≤ V.length) (hA : seqAll P Q T V J a0 w0 0 init D V) (hE : ∀ w, T w0 w → J init.length w → relyEnd (fun _ a w => wpList P ops Q tail a w) T init V a0 w) :
    ∀ (f k : Nat) (a : Act) (w : World), k + f = init.length → SeqInv ops T V J a0 w0 k a w → wpOps P ops Q (List.range' k (f + tail.length)) a w := by
  obtain ⟨hsz, hpre, htl⟩ := split_at hsplit
  intro f
  induction f with
  | zero =>
    intro k a w hk inv
    obtain rfl : k = init.length := by omega
    rw [Nat.zero_add]
    refine wpOps_tail tail init.length a w htl ?_
    refine relyEnd_of (Q := fun _ a w => wpList P ops Q tail a w) init V a0 inv.slots.symm inv.defers.symm hl (fun d hnd => ?_) (fun k o d hk hd => ?_) (hE w inv.now inv.at_)
    · refine (inv.old d fun j hj hjd => ?_).symm
      have hj2 := hpre j init[j] (List.getElem?_eq_getElem hj)
      simp [relyDst, hj2] at hjd
      exact hnd init[j] (List.getElem_mem hj) hjd
    · exact inv.new k d (List.getElem?_eq_some_iff.1 hk).1 (by simp [relyDst, hpre k o hk, hd])
  | succ f ih =>
    intro k a w hk inv
    rw [show f + 1 + tail.length = (f + tail.length) + 1 by omega, List.range'_succ, wpOps_cons]
    have hklt : k < init.length := by omega
    have hio : init[k]? = some init[k] := List.getElem?_eq_getElem hklt
    obtain ⟨dp, g, hD, h1⟩ := seqB_at init D 0 k _ hB hio
    have hstep := seqAll_at _ _ _ 0 k _ dp g hA hio hD
    rw [Nat.zero_add] at h1 hstep
    exact wpOp_mono (fun a' w' inv' => ih (k + 1) a' w' (by omega) inv') (seq_op hn ht hklt (hpre k _ hio) h1 hstep inv)
/-- **A region in the text's order; the operations from place m on are left as they stand.** -/
theorem wp_region_steps {id : Nat} (T : World → World → Prop) (J : Nat → World → Prop) (V : List (SV T)) (D : Deps) (n m : Nat) (hn : a0.tmps.size = n) (hlen : (ops.toList.take m).length = m) (hB : seqB ops n m 0 (ops.toList.take m) D = true)
    (ht : ∀ a b c : World, T a b → T b c → T a c) (hd : T w0 w0) (hJ : J 0 w0) (hl : m ≤ V.length)
    (hA : seqAll P Q T V J a0 w0 0 (ops.toList.take m) D V) (hE : ∀ w, T w0 w → J m w → relyEnd (fun _ a w => wpList P ops Q (ops.toList.drop m) a w) T (ops.toList.take m) V a0 w) : (Code.region id ops false).wp P Q a0 w0 := by
  refine wp_region ?_
  have hs := split_at (List.take_append_drop m ops.toList).symm
  rw [List.range_eq_range', hs.1]
  exact wpOps_seq (List.take_append_drop m ops.toList).symm hn (by rw [hlen]; exact hB) ht (by rw [hlen]; exact hl) hA (by rw [hlen]; exact hE) _ 0 a0 w0 (by omega) ⟨hd, hJ, rfl, rfl, fun j d hj => absurd hj (by omega), fun _ _ => rfl⟩
/-- Without a relation beside. -/
theorem seqAll_of : ∀ (i : Nat) (l : List Oper) (D : Deps) (C : List (SV T)), relyAll P Q T V a0 w0 l D C → seqAll P Q T V (fun _ _ => True) a0 w0 i l D C
  | _, [], _, _, _ => trivial
  | i, _ :: r, (_, _) :: D, _ :: C, h => ⟨fun a w hT hF _ K hK => h.1 a w hT hF K fun v w' h1 h2 => hK v w' h1 trivial h2, seqAll_of (i + 1) r D C h.2⟩
  | _, _ :: _, [], _, h => h.elim
  | _, _ :: _, _ :: _, [], h => h.elim
theorem wp_region_steps0 {id : Nat} (T : World → World → Prop) (V : List (SV T)) (D : Deps) (n m : Nat) (hn : a0.tmps.size = n) (hlen : (ops.toList.take m).length = m) (hB : seqB ops n m 0 (ops.toList.take m) D = true)
    (ht : ∀ a b c : World, T a b → T b c → T a c) (hd : T w0 w0) (hl : m ≤ V.length)
    (hA : relyAll P Q T V a0 w0 (ops.toList.take m) D V) (hE : ∀ w, T w0 w → relyEnd (fun _ a w => wpList P ops Q (ops.toList.drop m) a w) T (ops.toList.take m) V a0 w) : (Code.region id ops false).wp P Q a0 w0 :=
  wp_region_steps T (fun _ _ => True) V D n m hn hlen hB ht hd trivial hl (seqAll_of 0 _ _ _ hA) fun w hT _ => hE w hT
theorem wpList_end {a : Act} {w : World} {l : List Oper} (hl : l = []) (h : Q .normal a w) : wpList P ops Q l a w := by subst hl; exact h
end
end Go.Proofs.YtbejolbknimmmaaDoor
/- A step that writes one block; stores into a row, a lemma each. No program is named here. -/
namespace Go.Proofs.YtbejolbknimmmaaDoor
open Go Go.RowKit
set_option maxRecDepth 8000
set_option linter.all false

/-- A step that writes block R, and new memory, alone. -/
structure RT (R : Nat) (w w' : World) : Prop where
  below : Below R w w'
  keep : KeepBut [R] w w'
theorem RT.refl (R : Nat) (w : World) : RT R w w := ⟨Below.refl _ _, KeepBut.refl _ _⟩
theorem RT.trans {R : Nat} (a b c : World) (h : RT R a b) (k : RT R b c) : RT R a c := ⟨h.below.trans k.below, h.keep.trans k.keep⟩
theorem RT.new {R : Nat} {w w' : World} (hR : R < w.heap.size) (h : NewT w w') : RT R w w' := ⟨h.out.mono (by omega), KeepBut.below h⟩
theorem RT.drew (R : Nat) (w : World) : RT R w w.drew := ⟨(Below.refl _ _).drew, KeepBut.drew _⟩
theorem RT.setCell {R : Nat} (w : World) (o : Nat) (v : Value) : RT R w (w.setCell ⟨R, o, none⟩ v) := ⟨(Below.refl R w).setCell (p := ⟨R, o, none⟩) (Nat.le_refl R) v, KeepBut.setCell (by simp) v⟩
theorem RT.rd {R : Nat} {w w' : World} (h : RT R w w') {v : Value} {l : List UInt8} (hr : RdV w [R] v l) : RdV w' [R] v l := hr.keep h.keep
theorem RT.row {R : Nat} {w w' : World} (h : RT R w w') {b n : Nat} {t : TypeId} {f : Nat → Value} (hb : b ≠ R) (hr : w.rowIs b t n f) : w'.rowIs b t n f := h.keep.row (by simpa using hb) hr
theorem RT.size {R : Nat} {w w' : World} (h : RT R w w') : w.heap.size ≤ w'.heap.size := h.below.size
section
variable {P : Program} {ops : Array Oper} {rest : List Oper} {a : Act} {w : World} {Q : Exit → Act → World → Prop}
theorem wpList_new {o1 o2 : Oper} {t : TypeId} {n d0 : Nat} {y : Operand} {f f0 : Nat → Value} (hg1 : o1.guard = none) (hg2 : o2.guard = none) (h1 : o1.op = .alloc t) (hd : o1.dst = some d0) (h2 : o2.op = .store t (.tmp d0) y) (hd2 : o2.dst = none) (hlt : d0 < a.tmps.size)
    (hal : ∀ w : World, (Instr.alloc t true (.tuple #[])).run P w = .ok (.pointer (some ⟨w.heap.size, 0, none⟩)) (w.alloc (.cells (rowA n f0) t))) (hi : (P.info? t).map (·.size) = some n) (hone : ∀ i, (f i).oneCell' = true)
    (hy : (a.put (some d0) (.pointer (some ⟨w.heap.size, 0, none⟩))).eval y = .agg (rowA n f)) (h : ∀ w', NewT w w' → w'.rowIs w.heap.size t n f → wpList P ops Q rest (a.put (some d0) (.pointer (some ⟨w.heap.size, 0, none⟩))) w') : wpList P ops Q (o1 :: o2 :: rest) a w := by
  refine wpList_plain hg1 fun K hK => ?_
  obtain ⟨dst, op, type, pos, after, guard⟩ := o1
  simp only at h1 hd
  subst h1 hd
  refine opr_val (s := Instr.alloc t true (.tuple #[])) rfl (hal w) (hK _ _ ?_)
  have hr := rowIs_box w t n f0
  refine wpList_store_mid hg2 t (.tmp d0) y h2 w.heap.size 0 (rowA n f) (by rw [eval_tmp]; simp [Act.put, hlt]) hy (by rw [rowA_size]; exact there_row hr) (by rw [rowA_size]; exact hi) (rowA_one _ _ hone) ?_
  rw [hd2]
  exact h _ (below_setCells _ (Nat.le_refl _) _ _ _ (NewT.alloc _ _).out) (rowIs_setAll hr f)
/-- A part of a row that is the call's own is written. -/
theorem wpList_put {o : Oper} {t t' : TypeId} {x y : Operand} {g o0 n m : Nat} {f f0 F : Nat → Value} (hg : o.guard = none) (ho : o.op = .store t x y) (hd : o.dst = none) (hx : a.eval x = .pointer (some ⟨g, o0, none⟩)) (hy : a.eval y = .agg (rowA m f)) (hr : w.rowIs g t' n f0) (hm : o0 + m ≤ n) (hi : (P.info? t).map (·.size) = some m) (hone : ∀ i, (f i).oneCell' = true)
    (hF : ∀ i, i < n → F i = if o0 ≤ i ∧ i < o0 + m then f (i - o0) else f0 i) (h : ∀ w', (∀ B, B ≤ g → Below B w w') → w'.rowIs g t' n F → wpList P ops Q rest a w') : wpList P ops Q (o :: rest) a w := by
  refine wpList_store_mid hg t x y ho g o0 (rowA m f) hx hy (by rw [rowA_size]; exact fun j hj => ⟨by simp [hr.cell (i := o0 + j) (by omega)], by simpa using hr.frozen (o0 + j)⟩) (by rw [rowA_size]; exact hi) (rowA_one _ _ hone) ?_
  rw [hd]
  refine h _ (fun B hB => below_setCells g hB _ _ _ (Below.refl _ _)) ((rowIs_setCells_at hr (rowA m f).toList o0).congr fun i hi => ?_)
  rw [hF i hi, rowA_toList]
  simp only [List.length_map, List.length_range]
  by_cases h : o0 ≤ i ∧ i < o0 + m
  · rw [if_pos h, if_pos h]
    simp [show i - o0 < m by omega]
  · rw [if_neg h, if_neg h]
theorem wpList_put1 {o : Oper} {t t' : TypeId} {x y : Operand} {g o0 n : Nat} {v : Value} {f0 F : Nat → Value} (hg : o.guard = none) (ho : o.op = .store t x y) (hd : o.dst = none) (hx : a.eval x = .pointer (some ⟨g, o0, none⟩)) (hy : a.eval y = v) (hr : w.rowIs g t' n f0) (hm : o0 < n) (hi : (P.info? t).map (·.size) = some 1) (hone : v.oneCell' = true)
    (hF : ∀ i, i < n → F i = if i = o0 then v else f0 i) (h : ∀ w', (∀ B, B ≤ g → Below B w w') → w'.rowIs g t' n F → wpList P ops Q rest a w') : wpList P ops Q (o :: rest) a w := by
  refine wpList_plain hg fun K hK => ?_
  obtain ⟨dst, op, type, pos, after, guard⟩ := o
  simp only at ho hd
  subst ho hd
  have hsz : (sizeOf t).run P w = .ok 1 w := by
    cases hq : P.info? t with
    | none => simp [hq] at hi
    | some i => simp [hq] at hi; simp [sizeOf, typeInfo, hq, hi]
  have hc := hr.cell hm
  have hf := hr.frozen o0
  have hcs : v.cells = #[v] := by cases v <;> first | rfl | simp [Value.oneCell'] at hone
  refine opr_unit (s := Instr.storeAt t (a.eval x) (a.eval y)) (w' := w.setCell ⟨g, o0, none⟩ v) rfl ?_ (hK _ _ ?_)
  · rw [hx, hy]
    simp [Instr.storeAt, Instr.sureAddr, storeVar, hsz, hcs, storeCells, run_store _ _ _ _ _ hone, hc, hf, Addr.add_zero']
  · exact h _ (fun B hB => (Below.refl B w).setCell (p := ⟨g, o0, none⟩) hB v) ((hr.set o0 v).congr fun i hi => by rw [hF i hi])
/-- A record or a row that a call hands back. -/
theorem results_agg {fn : Func} {p : Tmp} {ty t : TypeId} {d : TypeDesc} {n b : Nat} {f : Nat → Value} (hf : fn.results = #[.cell p ty]) (tmps : Array Value) (hp : tmps.getD p undef = .pointer (some ⟨b, 0, none⟩))
    (h : w.rowIs b t n f) (hu : P.underlying ty = some d) (hd : d.isRow = true) (hi : (P.info? ty).map (·.size) = some n) : (results fn tmps).run P w = .ok (.agg (rowA n f)) w := by
  have := run_loadVar_mid (P := P) w b 0 ty (rowA n f).toList d (rangeAt_row h) hu hd (by rw [hi, rowA_toList]; simp)
  have hp' : tmps[p]?.getD undef = .pointer (some ⟨b, 0, none⟩) := by simpa using hp
  simp [results, hf, hp', asAddr, this]
end
section
variable {P : Program} {a : Act} {w : World} {o : Oper} {K : Act → World → Prop} {Q : Exit → Act → World → Prop}
theorem opr_put1 {t t' : TypeId} {x y : Operand} {g o0 n : Nat} {v : Value} {f0 F : Nat → Value} (ho : o.op = .store t x y) (hx : a.eval x = .pointer (some ⟨g, o0, none⟩)) (hy : a.eval y = v) (hr : w.rowIs g t' n f0) (hm : o0 < n) (hi : (P.info? t).map (·.size) = some 1) (hone : v.oneCell' = true)
    (hF : ∀ i, i < n → F i = if i = o0 then v else f0 i) (h : ∀ w', RT g w w' → w'.rowIs g t' n F → K (a.put o.dst undef) w') : o.wp P a w K Q := by
  obtain ⟨dst, op, type, pos, after, guard⟩ := o
  simp only at ho
  subst ho
  have hsz : (sizeOf t).run P w = .ok 1 w := by
    cases hq : P.info? t with
    | none => simp [hq] at hi
    | some i => simp [hq] at hi; simp [sizeOf, typeInfo, hq, hi]
  have hc := hr.cell hm
  have hf := hr.frozen o0
  have hcs : v.cells = #[v] := by cases v <;> first | rfl | simp [Value.oneCell'] at hone
  refine opr_unit (s := Instr.storeAt t (a.eval x) (a.eval y)) (w' := w.setCell ⟨g, o0, none⟩ v) rfl ?_ (h _ (RT.setCell w o0 v) ((hr.set o0 v).congr fun i hi => by rw [hF i hi]))
  rw [hx, hy]
  simp [Instr.storeAt, Instr.sureAddr, storeVar, hsz, hcs, storeCells, run_store _ _ _ _ _ hone, hc, hf, Addr.add_zero']
theorem RT.setCells {R : Nat} (vs : List Value) (o : Nat) (w : World) : RT R w (w.setCells R o vs) := by
  induction vs generalizing o w with
  | nil => exact RT.refl _ _
  | cons v r ih => rw [World.setCells]; exact RT.trans _ _ _ (RT.setCell w o v) (ih (o + 1) _)
theorem opr_putm {t t' : TypeId} {x y : Operand} {g o0 n m : Nat} {f f0 F : Nat → Value} (ho : o.op = .store t x y) (hx : a.eval x = .pointer (some ⟨g, o0, none⟩)) (hy : a.eval y = .agg (rowA m f)) (hr : w.rowIs g t' n f0) (hm : o0 + m ≤ n) (hi : (P.info? t).map (·.size) = some m) (hone : ∀ i, (f i).oneCell' = true)
    (hF : ∀ i, i < n → F i = if o0 ≤ i ∧ i < o0 + m then f (i - o0) else f0 i) (h : ∀ w', RT g w w' → w'.rowIs g t' n F → K (a.put o.dst undef) w') : o.wp P a w K Q := by
  refine wp_store_mid t x y ho g o0 (rowA m f) hx hy (by rw [rowA_size]; exact fun j hj => ⟨by simp [hr.cell (i := o0 + j) (by omega)], by simpa using hr.frozen (o0 + j)⟩) (by rw [rowA_size]; exact hi) (rowA_one _ _ hone) ?_
  refine h _ (RT.setCells _ _ _) ((rowIs_setCells_at hr (rowA m f).toList o0).congr fun i hi => ?_)
  rw [hF i hi, rowA_toList]
  simp only [List.length_map, List.length_range]
  by_cases h : o0 ≤ i ∧ i < o0 + m
  · rw [if_pos h, if_pos h]
    simp [show i - o0 < m by omega]
  · rw [if_neg h, if_neg h]
end
end Go.Proofs.YtbejolbknimmmaaDoor
/- What the guards of a region make conditional, and single operations, a lemma each: fields, loads, numbers compared. -/
namespace Go.Proofs.YtbejolbknimmmaaDoor
open Go Go.RowKit
set_option maxRecDepth 8000
set_option linter.all false

theorem evs0 {a : Act} : (#[] : Array Operand).map a.eval = #[] := by simp
theorem evs1 {a : Act} {x : Operand} {v : Value} (h : a.eval x = v) : #[x].map a.eval = #[v] := by simp only [List.map_toArray, List.map_cons, List.map_nil, h]
theorem evs2 {a : Act} {x y : Operand} {v u : Value} (h : a.eval x = v) (k : a.eval y = u) : #[x, y].map a.eval = #[v, u] := by simp only [List.map_toArray, List.map_cons, List.map_nil, h, k]
theorem evs3 {a : Act} {x y z : Operand} {v u t : Value} (h : a.eval x = v) (k : a.eval y = u) (l : a.eval z = t) : #[x, y, z].map a.eval = #[v, u, t] := by simp only [List.map_toArray, List.map_cons, List.map_nil, h, k, l]
theorem evs4 {a : Act} {x y z p : Operand} {v u t s : Value} (h : a.eval x = v) (k : a.eval y = u) (l : a.eval z = t) (m : a.eval p = s) : #[x, y, z, p].map a.eval = #[v, u, t, s] := by simp only [List.map_toArray, List.map_cons, List.map_nil, h, k, l, m]
theorem evs5 {a : Act} {x y z p q : Operand} {v u t s r : Value} (h : a.eval x = v) (k : a.eval y = u) (l : a.eval z = t) (m : a.eval p = s) (n : a.eval q = r) : #[x, y, z, p, q].map a.eval = #[v, u, t, s, r] := by simp only [List.map_toArray, List.map_cons, List.map_nil, h, k, l, m, n]
section
variable {P : Program} {a : Act} {w : World} {o : Oper} {K : Act → World → Prop} {Q : Exit → Act → World → Prop}
/-- A condition that stands where b is so. -/
def svIf {T : World → World → Prop} (b : Bool) (c : SV T) : SV T := ⟨fun v w => b = true → c.pred v w, fun v w w' h hT hb => c.stable v w w' (h hb) hT⟩
/-- A guard's own value, where it may be left out. -/
def gV (b c : Bool) : Value := bif b then .bool c else undef
theorem rely_on {g : Option (Tmp × Bool)} {E : Bool} (hg : relyGuard g a = E) (h1 : E = true → o.wp P a w K Q) (h0 : E = false → K (a.put o.dst undef) w) : if relyGuard g a then o.wp P a w K Q else K (a.put o.dst undef) w := by
  rw [hg]; cases E
  · exact h0 rfl
  · exact h1 rfl
/-- What is done under a guard that isn't known. -/
theorem rely_if {T : World → World → Prop} {g : Option (Tmp × Bool)} {E : Bool} {c : SV T} (hg : relyGuard g a = E) (hr : T w w) (hK : ∀ v w', T w w' → (svIf E c).pred v w' → K (a.put o.dst v) w') (h : E = true → (∀ v w', T w w' → c.pred v w' → K (a.put o.dst v) w') → o.wp P a w K Q) : if relyGuard g a then o.wp P a w K Q else K (a.put o.dst undef) w :=
  rely_on hg (fun hE => h hE fun v w' h1 h2 => hK v w' h1 fun _ => h2) fun hE => hK _ _ hr fun h1 => by rw [hE] at h1; cases h1
theorem rely_ifg {T : World → World → Prop} {g : Option (Tmp × Bool)} {E b : Bool} (hg : relyGuard g a = E) (hr : T w w) (hK : ∀ v w', T w w' → (SV.eq (T := T) (gV E b)).pred v w' → K (a.put o.dst v) w') (h : E = true → (∀ v w', T w w' → v = .bool b → K (a.put o.dst v) w') → o.wp P a w K Q) : if relyGuard g a then o.wp P a w K Q else K (a.put o.dst undef) w :=
  rely_on hg (fun hE => h hE fun v w' h1 h2 => hK v w' h1 (by rw [h2, hE]; rfl)) fun hE => hK _ _ hr (by rw [hE]; rfl)
theorem pn_and1 {b e q : Bool} {v : Value} (hq : (b && e) = q) (h : v = .bool e) (hb : b = true) : v = .bool q := by rw [h, ← hq, hb]; rfl
theorem pn_and0 {b e q : Bool} (hq : (b && e) = q) (hb : b = false) : Value.bool false = .bool q := by rw [← hq, hb]; rfl
theorem pn_or1 {b e q : Bool} (hq : (b || e) = q) (hb : b = true) : Value.bool true = .bool q := by rw [← hq, hb]; rfl
theorem pn_or0 {b e q : Bool} {v : Value} (hq : (b || e) = q) (h : v = .bool e) (hb : b = false) : v = .bool q := by rw [h, ← hq, hb]; rfl
theorem rely_gt {d : Tmp} {b : Bool} (h : a.tmps.getD d undef = .bool b) : relyGuard (some (d, true)) a = b := by simp only [relyGuard, h]; cases b <;> rfl
theorem rely_gf {d : Tmp} {b : Bool} (h : a.tmps.getD d undef = .bool b) : relyGuard (some (d, false)) a = !b := by simp only [relyGuard, h]; cases b <;> rfl
theorem rely_ggt {d : Tmp} {p b : Bool} (h : a.tmps.getD d undef = gV p b) : relyGuard (some (d, true)) a = (p && b) := by simp only [relyGuard, h, gV]; cases p <;> cases b <;> rfl
theorem rely_ggf {d : Tmp} {p b : Bool} (h : a.tmps.getD d undef = gV p b) : relyGuard (some (d, false)) a = (p && !b) := by simp only [relyGuard, h, gV]; cases p <;> cases b <;> rfl
theorem gV_on {p b : Bool} (h : p = true) : gV p b = .bool b := by rw [h]; rfl
theorem gV_off {p b : Bool} (h : p = false) : undef = gV p b := by rw [h]; rfl
theorem svIf_off {T : World → World → Prop} {b : Bool} {c : SV T} {v : Value} {w : World} (h : b = false) : (svIf b c).pred v w := fun h1 => by rw [h] at h1; cases h1
theorem bleft {a b : Bool} (h : (a && b) = true) : a = true := by cases a <;> simp_all
theorem opr_pick_b {c x y : Operand} {b : Bool} (ho : o.op = .pick c x y) (hc : a.eval c = .bool b) (h1 : b = true → K (a.put o.dst (a.eval x)) w) (h0 : b = false → K (a.put o.dst (a.eval y)) w) : o.wp P a w K Q := by
  cases b
  · exact opr_pick_false ho hc (h0 rfl)
  · exact opr_pick_true ho hc (h1 rfl)
theorem pk_and1 {b e : Bool} {v : Value} (h : v = .bool e) (hb : b = true) : v = .bool (b && e) := by rw [h, hb]; rfl
theorem pk_and0 {b e : Bool} (hb : b = false) : Value.bool false = .bool (b && e) := by rw [hb]; rfl
theorem pk_or1 {b e : Bool} (hb : b = true) : Value.bool true = .bool (b || e) := by rw [hb]; rfl
theorem pk_or0 {b e : Bool} {v : Value} (h : v = .bool e) (hb : b = false) : v = .bool (b || e) := by rw [h, hb]; rfl
theorem bnot {b : Bool} (h : b = false) : (!b) = true := by rw [h]; rfl
theorem band {a b : Bool} (h : a = true) (k : b = true) : (a && b) = true := by rw [h, k]; rfl
theorem opr_not {t : TypeId} {x : Operand} {b : Bool} (ho : o.op = .unOp .not t x) (hx : a.eval x = .bool b) (h : K (a.put o.dst (.bool !b)) w) : o.wp P a w K Q := by
  obtain ⟨dst, op, type, pos, after, guard⟩ := o
  simp only at ho
  subst ho
  refine opr_val (s := Op.unary .not (a.eval x)) rfl ?_ h
  rw [hx]; simp [go_sem]
/-- A field's place. -/
theorem opr_fld {t : TypeId} {x : Operand} {k g o0 off m : Nat} {fs : Array Field} {f : Field} (hu : P.underlying t = some (.struct fs)) (hk : fs[k]? = some f) (hs : (P.info? f.type).map (·.size) = some (m + 1)) (ho : o.op = .fieldAddr t x k) (hx : a.eval x = .pointer (some ⟨g, o0, none⟩)) (hoff : o0 + f.offset = off) (h : K (a.put o.dst (.pointer (some ⟨g, off, none⟩))) w) : o.wp P a w K Q := by
  subst hoff
  obtain ⟨dst, op, type, pos, after, guard⟩ := o
  simp only at ho
  subst ho
  refine opr_val (s := Instr.fieldAt t (a.eval x) k) rfl ?_ h
  have hsz : (sizeOf f.type).run P w = .ok (m + 1) w := by
    cases hq : P.info? f.type with
    | none => simp [hq] at hs
    | some i => simp [hq] at hs; simp [sizeOf, typeInfo, hq, hs]
  rw [hx]
  simp [Instr.fieldAt, run_underlying hu, hk, Instr.sureAddr, fieldPlace, hsz, Addr.add_mid]
/-- A cell is loaded. -/
theorem opr_ld1 {t : TypeId} {x : Operand} {g o0 : Nat} {d : TypeDesc} {v : Value} (hu : P.underlying t = some d) (hd : d.isRow = false) (ho : o.op = .load t x) (hx : a.eval x = .pointer (some ⟨g, o0, none⟩)) (hc : w.cell? ⟨g, o0, none⟩ = some v) (h : K (a.put o.dst v) w) : o.wp P a w K Q := by
  obtain ⟨dst, op, type, pos, after, guard⟩ := o
  simp only at ho
  subst ho
  refine opr_val (s := Instr.loadAt t (a.eval x)) rfl ?_ h
  have hagg : (isAgg t).run P w = .ok false w := by
    unfold isAgg
    rw [Sem.run_bind, run_underlying hu w]
    cases d <;> simp_all
  rw [hx]
  simp [Instr.loadAt, Instr.sureAddr, loadVar, hagg, hc]
/-- A part of a row is loaded. -/
theorem opr_ldm {t t' : TypeId} {x : Operand} {g o0 n m : Nat} {d : TypeDesc} {f : Nat → Value} (hu : P.underlying t = some d) (hd : d.isRow = true) (hi : (P.info? t).map (·.size) = some m) (ho : o.op = .load t x) (hx : a.eval x = .pointer (some ⟨g, o0, none⟩)) (hr : w.rowIs g t' n f) (hm : o0 + m ≤ n) (h : K (a.put o.dst (.agg (rowA m fun j => f (o0 + j)))) w) : o.wp P a w K Q := by
  obtain ⟨dst, op, type, pos, after, guard⟩ := o
  simp only at ho
  subst ho
  refine opr_val (s := Instr.loadAt t (a.eval x)) rfl ?_ h
  rw [hx]
  have := run_loadAt_mid (P := P) w g o0 t _ d (rangeAt_part hr o0 m hm) hu hd (by rw [rowA_toList]; simpa using hi)
  simpa using this
end
section
variable {a : Act} {w : World} {o : Oper} {K : Act → World → Prop} {Q : Exit → Act → World → Prop} {x : Operand} {g : Nat}
theorem info_int : (Tryd.prog.info? 3).map (·.size) = some (0 + 1) := by kernel_rfl
theorem info_bool : (Tryd.prog.info? 4).map (·.size) = some (0 + 1) := by kernel_rfl
theorem info_hash1 : (Tryd.prog.info? 48).map (·.size) = some (31 + 1) := by kernel_rfl
theorem info_sb1 : (Tryd.prog.info? 33).map (·.size) = some (0 + 1) := by kernel_rfl
variable {F : Nat → Value} {t' : TypeId} {n : Nat} {o0 : Nat} {v : Value}
theorem opr_ldI (hr : w.rowIs g t' n F) (hn : o0 < n) (hv : F o0 = v) (ho : o.op = .load 3 x) (hx : a.eval x = .pointer (some ⟨g, o0, none⟩)) (h : K (a.put o.dst v) w) : o.wp Tryd.prog a w K Q :=
  opr_ld1 Tryd.underlying3 rfl ho hx (by rw [hr.cell hn, hv]) h
theorem opr_ldQ (hr : w.rowIs g t' n F) (hn : o0 < n) (hv : F o0 = v) (ho : o.op = .load 4 x) (hx : a.eval x = .pointer (some ⟨g, o0, none⟩)) (h : K (a.put o.dst v) w) : o.wp Tryd.prog a w K Q :=
  opr_ld1 Tryd.underlying4 rfl ho hx (by rw [hr.cell hn, hv]) h
theorem opr_ldB (hr : w.rowIs g t' n F) (hn : o0 < n) (hv : F o0 = v) (ho : o.op = .load 33 x) (hx : a.eval x = .pointer (some ⟨g, o0, none⟩)) (h : K (a.put o.dst v) w) : o.wp Tryd.prog a w K Q :=
  opr_ld1 Tryd.underlying33 rfl ho hx (by rw [hr.cell hn, hv]) h
theorem opr_ldH {d : Nat → UInt8} (hr : w.rowIs g t' n F) (hn : o0 + 32 ≤ n) (hv : ∀ j, j < 32 → F (o0 + j) = bF d j) (ho : o.op = .load 48 x) (hx : a.eval x = .pointer (some ⟨g, o0, none⟩)) (h : K (a.put o.dst (.agg (rowA 32 (bF d)))) w) : o.wp Tryd.prog a w K Q :=
  opr_ldm Tryd.underlying48 rfl info31 ho hx hr hn (by rw [rowA_congr hv]; exact h)
/-- Numbers are compared. -/
theorem opr_cmp {op : BinOp} {t t2 : TypeId} {x y : Operand} {m n : Int} {b : Bool} (hop : op = .eql ∧ (m == n) = b ∨ op = .neq ∧ (m != n) = b ∨ op = .leq ∧ decide (m ≤ n) = b ∨ op = .lss ∧ decide (m < n) = b ∨ op = .gtr ∧ decide (n < m) = b ∨ op = .geq ∧ decide (n ≤ m) = b) (_ht : Tryd.prog.underlying t = some (.int .i64)) (ho : o.op = .binOp op t x y t2) (hx : a.eval x = .int .i64 m) (hy : a.eval y = .int .i64 n) (h : K (a.put o.dst (.bool b)) w) : o.wp Tryd.prog a w K Q := by
  obtain ⟨dst, op', type, pos, after, guard⟩ := o
  simp only at ho
  subst ho
  refine opr_val (s := do eqGuard op t x y (a.eval x) (a.eval y); binOp op t (a.eval x) (a.eval y)) rfl ?_ h
  rw [hx, hy]
  rcases hop with ⟨rfl, rfl⟩ | ⟨rfl, rfl⟩ | ⟨rfl, rfl⟩ | ⟨rfl, rfl⟩ | ⟨rfl, rfl⟩ | ⟨rfl, rfl⟩ <;> simp [go_sem]
end
section
variable {a : Act} {w : World} {o : Oper} {K : Act → World → Prop} {Q : Exit → Act → World → Prop} {x y : Operand} {g : Nat}
theorem opr_eqlQ {p q b : Bool} {t2 : TypeId} (hb : (p == q) = b) (ho : o.op = .binOp .eql 4 x y t2) (hx : a.eval x = .bool p) (hy : a.eval y = .bool q) (h : K (a.put o.dst (.bool b)) w) : o.wp Tryd.prog a w K Q := by
  obtain ⟨dst, op', type, pos, after, guard⟩ := o
  simp only at ho
  subst ho hb
  refine opr_val (s := do eqGuard .eql 4 x y (a.eval x) (a.eval y); binOp .eql 4 (a.eval x) (a.eval y)) rfl ?_ h
  rw [hx, hy]
  simp [go_sem]
/-- 'h[:]' of a hash that lies in a row. -/
theorem opr_sliceH {o0 : Nat} (ho : o.op = .slice 48 x none none none) (hx : a.eval x = .pointer (some ⟨g, o0, none⟩)) (h : K (a.put o.dst (.slice (some ⟨g, o0, none⟩) 32 32)) w) : o.wp Tryd.prog a w K Q := by
  obtain ⟨dst, op, type, pos, after, guard⟩ := o
  simp only at ho
  subst ho
  refine opr_val (s := Instr.sliceAt 48 (a.eval x) none none none) rfl ?_ h
  rw [hx]
  have hsz : (sizeOf 5).run Tryd.prog w = .ok 1 w := by
    have hs := info5s
    cases hq : Tryd.prog.info? 5 with
    | none => simp [hq] at hs
    | some i => simp [hq] at hs; simp [sizeOf, typeInfo, hq, hs]
  simp [Instr.sliceAt, run_underlying Tryd.underlying48, Instr.sureAddr, Instr.sliceBounds, hsz, Addr.add_zero']
theorem rd_rowH {t' n o0 : Nat} {F : Nat → Value} {d : Nat → UInt8} (hr : w.rowIs g t' n F) (hn : o0 + 32 ≤ n) (hv : ∀ j, j < 32 → F (o0 + j) = bF d j) : RdV w [] (.slice (some ⟨g, o0, none⟩) 32 32) (digL d) := by
  refine ⟨some ⟨g, o0, none⟩, 32, by rw [digL_length], by rw [digL_length]; exact Nat.le_refl _, by unfold maxLen; omega, fun _ => ⟨g, o0, rfl, by simp, fun i hi => ?_⟩⟩
  rw [digL_length] at hi
  rw [hr.cell (by omega), hv i hi, bF_at]
  simp [bAt, digL, hi]
theorem run_bs3 (A : Option Addr) (n c : Nat) (A2 : Option Addr) (n2 c2 : Nat) (A3 : Option Addr) (n3 c3 : Nat) (w : World) : (Instr.buildSlice 26 3 #[(0, .slice A n c), (1, .slice A2 n2 c2), (2, .slice A3 n3 c3)]).run Tryd.prog w = .ok (.slice (some ⟨w.heap.size, 0, none⟩) 3 3) (w.alloc (.cells #[.slice A n c, .slice A2 n2 c2, .slice A3 n3 c3] 33)) := by
  simp [go_sem]
theorem run_bs4 (A : Option Addr) (n c : Nat) (A2 : Option Addr) (n2 c2 : Nat) (A3 : Option Addr) (n3 c3 : Nat) (A4 : Option Addr) (n4 c4 : Nat) (w : World) : (Instr.buildSlice 26 4 #[(0, .slice A n c), (1, .slice A2 n2 c2), (2, .slice A3 n3 c3), (3, .slice A4 n4 c4)]).run Tryd.prog w = .ok (.slice (some ⟨w.heap.size, 0, none⟩) 4 4) (w.alloc (.cells #[.slice A n c, .slice A2 n2 c2, .slice A3 n3 c3, .slice A4 n4 c4] 33)) := by
  simp [go_sem]
theorem opr_bs3 {x1 x2 x3 : Operand} {l1 l2 l3 : List UInt8} (ho : o.op = .buildSlice 26 3 #[(0, x1), (1, x2), (2, x3)]) (h1 : RdV w [] (a.eval x1) l1) (h2 : RdV w [] (a.eval x2) l2) (h3 : RdV w [] (a.eval x3) l3) (h : ∀ v w', NewT w w' → Parts w' v [l1, l2, l3] → K (a.put o.dst v) w') : o.wp Tryd.prog a w K Q := by
  obtain ⟨dst, op, type, pos, after, guard⟩ := o
  simp only at ho
  subst ho
  obtain ⟨A1, c1, e1⟩ := rdV_form h1
  obtain ⟨A2, c2, e2⟩ := rdV_form h2
  obtain ⟨A3, c3, e3⟩ := rdV_form h3
  rw [e1] at h1
  rw [e2] at h2
  rw [e3] at h3
  exact opr_val (s := Instr.buildSlice 26 3 #[(0, a.eval x1), (1, a.eval x2), (2, a.eval x3)]) (by simp [execOp]) (by rw [e1, e2, e3]; exact run_bs3 _ _ _ _ _ _ _ _ _ w) (h _ _ (NewT.alloc _ _) ⟨[(.slice A1 l1.length c1, l1), (.slice A2 l2.length c2, l2), (.slice A3 l3.length c3, l3)], parts_new [(.slice A1 l1.length c1, l1), (.slice A2 l2.length c2, l2), (.slice A3 l3.length c3, l3)] 33 (by simp) (by simp) (by simp; exact ⟨h1, h2, h3⟩), rfl⟩)
theorem opr_bs4 {x1 x2 x3 x4 : Operand} {l1 l2 l3 l4 : List UInt8} (ho : o.op = .buildSlice 26 4 #[(0, x1), (1, x2), (2, x3), (3, x4)]) (h1 : RdV w [] (a.eval x1) l1) (h2 : RdV w [] (a.eval x2) l2) (h3 : RdV w [] (a.eval x3) l3) (h4 : RdV w [] (a.eval x4) l4) (h : ∀ v w', NewT w w' → Parts w' v [l1, l2, l3, l4] → K (a.put o.dst v) w') : o.wp Tryd.prog a w K Q := by
  obtain ⟨dst, op, type, pos, after, guard⟩ := o
  simp only at ho
  subst ho
  obtain ⟨A1, c1, e1⟩ := rdV_form h1
  obtain ⟨A2, c2, e2⟩ := rdV_form h2
  obtain ⟨A3, c3, e3⟩ := rdV_form h3
  obtain ⟨A4, c4, e4⟩ := rdV_form h4
  rw [e1] at h1
  rw [e2] at h2
  rw [e3] at h3
  rw [e4] at h4
  exact opr_val (s := Instr.buildSlice 26 4 #[(0, a.eval x1), (1, a.eval x2), (2, a.eval x3), (3, a.eval x4)]) (by simp [execOp]) (by rw [e1, e2, e3, e4]; exact run_bs4 _ _ _ _ _ _ _ _ _ _ _ _ w) (h _ _ (NewT.alloc _ _) ⟨[(.slice A1 l1.length c1, l1), (.slice A2 l2.length c2, l2), (.slice A3 l3.length c3, l3), (.slice A4 l4.length c4, l4)], parts_new [(.slice A1 l1.length c1, l1), (.slice A2 l2.length c2, l2), (.slice A3 l3.length c3, l3), (.slice A4 l4.length c4, l4)] 33 (by simp) (by simp) (by simp; exact ⟨h1, h2, h3, h4⟩), rfl⟩)
end
end Go.Proofs.YtbejolbknimmmaaDoor
/- Single operations: a pointer that isn't nil, sums, differences, products. -/
namespace Go.Proofs.YtbejolbknimmmaaDoor
open Go Go.RowKit
set_option maxRecDepth 8000
set_option linter.all false
section
variable {P : Program} {a : Act} {w : World} {o : Oper} {K : Act → World → Prop} {Q : Exit → Act → World → Prop} {x y : Operand}
theorem opr_nilc {A : Addr} (ho : o.op = .nilCheck x) (hx : a.eval x = .pointer (some A)) (h : K (a.put o.dst (.pointer (some A))) w) : o.wp P a w K Q := by
  obtain ⟨dst, op, type, pos, after, guard⟩ := o
  simp only at ho
  subst ho
  simpa [Oper.wp, execOp, hx, Oper.upon, Sem.run_pure] using h
theorem opr_add {t t2 : TypeId} {m n r : Int} (ht : P.underlying t = some (.int .i64)) (hr : wrap64 (m + n) = r) (ho : o.op = .binOp .add t x y t2) (hx : a.eval x = .int .i64 m) (hy : a.eval y = .int .i64 n) (h : K (a.put o.dst (.int .i64 r)) w) : o.wp P a w K Q := by
  obtain ⟨dst, op, type, pos, after, guard⟩ := o
  simp only at ho
  subst ho hr
  refine opr_val (s := do eqGuard .add t x y (a.eval x) (a.eval y); binOp .add t (a.eval x) (a.eval y)) rfl ?_ h
  rw [hx, hy]; simp [go_sem]; rw [IntKind.wrap_i64, wrap64]
theorem opr_sub {t t2 : TypeId} {m n r : Int} (ht : P.underlying t = some (.int .i64)) (hr : wrap64 (m - n) = r) (ho : o.op = .binOp .sub t x y t2) (hx : a.eval x = .int .i64 m) (hy : a.eval y = .int .i64 n) (h : K (a.put o.dst (.int .i64 r)) w) : o.wp P a w K Q := by
  obtain ⟨dst, op, type, pos, after, guard⟩ := o
  simp only at ho
  subst ho hr
  refine opr_val (s := do eqGuard .sub t x y (a.eval x) (a.eval y); binOp .sub t (a.eval x) (a.eval y)) rfl ?_ h
  rw [hx, hy]; simp [go_sem]; rw [IntKind.wrap_i64, wrap64]
theorem opr_mul {t t2 : TypeId} {m n r : Int} (ht : P.underlying t = some (.int .i64)) (hr : wrap64 (m * n) = r) (ho : o.op = .binOp .mul t x y t2) (hx : a.eval x = .int .i64 m) (hy : a.eval y = .int .i64 n) (h : K (a.put o.dst (.int .i64 r)) w) : o.wp P a w K Q := by
  obtain ⟨dst, op, type, pos, after, guard⟩ := o
  simp only at ho
  subst ho hr
  refine opr_val (s := do eqGuard .mul t x y (a.eval x) (a.eval y); binOp .mul t (a.eval x) (a.eval y)) rfl ?_ h
  rw [hx, hy]; simp [go_sem]; rw [IntKind.wrap_i64, wrap64]
end
end Go.Proofs.YtbejolbknimmmaaDoor
/- Boxes of one value; what calls hand back together: rows, flags. -/
namespace Go.Proofs.YtbejolbknimmmaaDoor
open Go Go.RowKit
set_option maxRecDepth 8000
set_option linter.all false
theorem rowIs_one (w : World) (t : TypeId) (v : Value) : (w.alloc (.cells #[v] t)).rowIs w.heap.size t 1 (fun _ => v) := rowIs_box w t 1 (fun _ => v)
/-- A block that is new is written. -/
theorem NewT.rt {w w1 w2 : World} {b : Nat} (h : NewT w w1) (hR : RT b w1 w2) (hb : w.heap.size ≤ b) : NewT w w2 := NewT.of (h.out.trans (hR.below.mono hb))
section
variable {P : Program} {w : World} {fn : Func} {tmps : Array Value}
theorem run_ldV_row {b n : Nat} {t ty : TypeId} {d : TypeDesc} {f : Nat → Value} (h : w.rowIs b t n f) (hu : P.underlying ty = some d) (hd : d.isRow = true) (hi : (P.info? ty).map (·.size) = some n) : (loadVar ty ⟨b, 0, none⟩).run P w = .ok (.agg (rowA n f)) w := by
  simpa using run_loadVar_mid (P := P) w b 0 ty (rowA n f).toList d (rangeAt_row h) hu hd (by rw [hi, rowA_toList]; simp)
theorem run_ldV_one {b : Nat} {t ty : TypeId} {v : Value} {d : TypeDesc} (h : w.rowIs b t 1 (fun _ => v)) (hu : P.underlying ty = some d) (hd : d.isRow = false) : (loadVar ty ⟨b, 0, none⟩).run P w = .ok v w := by
  have ha : (isAgg ty).run P w = .ok false w := by
    unfold isAgg
    rw [Sem.run_bind, run_underlying hu w]
    cases d <;> first | rfl | cases hd
  have hc := h.cell (i := 0) (by omega)
  simp only [loadVar, Sem.run_bind, ha, Result.andThen_ok, Bool.false_eq_true, if_false]
  simp [run_load, hc]
/-- A row, and what lies in a variable. -/
theorem results_rv {p q : Tmp} {tp tq t t' : TypeId} {d d' : TypeDesc} {n b b' : Nat} {f : Nat → Value} {v : Value} (hf : fn.results = #[.cell p tp, .cell q tq]) (hp : tmps.getD p undef = .pointer (some ⟨b, 0, none⟩)) (hq : tmps.getD q undef = .pointer (some ⟨b', 0, none⟩))
    (h : w.rowIs b t n f) (h' : w.rowIs b' t' 1 (fun _ => v)) (hu : P.underlying tp = some d) (hd : d.isRow = true) (hi : (P.info? tp).map (·.size) = some n) (hu' : P.underlying tq = some d') (hd' : d'.isRow = false) : (results fn tmps).run P w = .ok (.tuple #[.agg (rowA n f), v]) w := by
  have e1 := run_ldV_row (P := P) h hu hd hi
  have e2 := run_ldV_one (P := P) h' hu' hd'
  have hp' : tmps[p]?.getD undef = .pointer (some ⟨b, 0, none⟩) := by simpa using hp
  have hq' : tmps[q]?.getD undef = .pointer (some ⟨b', 0, none⟩) := by simpa using hq
  simp [results, hf, hp', hq', asAddr, e1, e2]
/-- A row, and a value of the frame. -/
theorem results_rt {p u : Tmp} {tp t : TypeId} {d : TypeDesc} {n b : Nat} {f : Nat → Value} {v : Value} (hf : fn.results = #[.cell p tp, .tmp u]) (hp : tmps.getD p undef = .pointer (some ⟨b, 0, none⟩)) (hv : tmps.getD u undef = v)
    (h : w.rowIs b t n f) (hu : P.underlying tp = some d) (hd : d.isRow = true) (hi : (P.info? tp).map (·.size) = some n) : (results fn tmps).run P w = .ok (.tuple #[.agg (rowA n f), v]) w := by
  have e1 := run_ldV_row (P := P) h hu hd hi
  have hp' : tmps[p]?.getD undef = .pointer (some ⟨b, 0, none⟩) := by simpa using hp
  have hv' : tmps[u]?.getD undef = v := by simpa using hv
  simp [results, hf, hp', hv', asAddr, e1]
/-- Two rows, and a value of the frame. -/
theorem results_rrt {p q u : Tmp} {tp t t' : TypeId} {d : TypeDesc} {n b b' : Nat} {f f' : Nat → Value} {v : Value} (hf : fn.results = #[.cell p tp, .cell q tp, .tmp u]) (hp : tmps.getD p undef = .pointer (some ⟨b, 0, none⟩)) (hq : tmps.getD q undef = .pointer (some ⟨b', 0, none⟩)) (hv : tmps.getD u undef = v)
    (h : w.rowIs b t n f) (h' : w.rowIs b' t' n f') (hu : P.underlying tp = some d) (hd : d.isRow = true) (hi : (P.info? tp).map (·.size) = some n) : (results fn tmps).run P w = .ok (.tuple #[.agg (rowA n f), .agg (rowA n f'), v]) w := by
  have e1 := run_ldV_row (P := P) h hu hd hi
  have e2 := run_ldV_row (P := P) h' hu hd hi
  have hp' : tmps[p]?.getD undef = .pointer (some ⟨b, 0, none⟩) := by simpa using hp
  have hq' : tmps[q]?.getD undef = .pointer (some ⟨b', 0, none⟩) := by simpa using hq
  have hv' : tmps[u]?.getD undef = v := by simpa using hv
  simp [results, hf, hp', hq', hv', asAddr, e1, e2]
variable {a : Act} {o : Oper} {K : Act → World → Prop} {Q : Exit → Act → World → Prop}
/-- A closure is made. -/
theorem opr_mkf {fid : Nat} {xs : Array Operand} {cap : Array Value} (ho : o.op = .makeFunc (.func fid) #[] xs) (hx : xs.map a.eval = cap) (h : K (a.put o.dst (.func (.func fid) #[] cap)) w) : o.wp P a w K Q := by
  obtain ⟨dst, op, type, pos, after, guard⟩ := o
  simp only at ho
  subst ho
  subst hx
  exact opr_val (s := Instr.makeFunc (.func fid) #[] (xs.map a.eval)) (by simp [execOp]) rfl h
/-- One of the values that a call hands back together. -/
theorem opr_ext {k : Nat} {x : Operand} {vs : Array Value} {v : Value} (ho : o.op = .extract x k) (hx : a.eval x = .tuple vs) (hv : vs[k]? = some v) (h : K (a.put o.dst v) w) : o.wp P a w K Q := by
  obtain ⟨dst, op, type, pos, after, guard⟩ := o
  simp only at ho
  subst ho
  exact opr_val (s := Instr.extract (a.eval x) k) (by simp [execOp]) (by rw [hx]; simp [Instr.extract, hv]) h
end
end Go.Proofs.YtbejolbknimmmaaDoor
/- Where a log ends (place, count, chain), and a log, in memory. -/
namespace Go.Proofs.YtbejolbknimmmaaDoor
open Go Go.RowKit
set_option maxRecDepth 8000
set_option linter.all false
/-- An end's cells. -/
def enF (p c : Int) (d : Nat → UInt8) (j : Nat) : Value := bif Nat.blt j 1 then .int .i64 p else bif Nat.blt j 2 then .int .i64 c else bF d (j - 2)
/-- A log's cells. -/
def lgF (p c : Int) (d : Nat → UInt8) (q : Value) (j : Nat) : Value := bif Nat.blt j 34 then enF p c d j else q
theorem enF_one (p c : Int) (d : Nat → UInt8) (j : Nat) : (enF p c d j).oneCell' = true := by
  unfold enF; cases Nat.blt j 1 <;> cases Nat.blt j 2 <;> rfl
theorem enF_h (p c : Int) (d : Nat → UInt8) (j : Nat) (h : j < 32) : enF p c d (2 + j) = bF d j := by
  unfold enF
  rw [show Nat.blt (2 + j) 1 = false from by rw [← Bool.not_eq_true, Nat.blt_eq]; omega, show Nat.blt (2 + j) 2 = false from by rw [← Bool.not_eq_true, Nat.blt_eq]; omega]
  simp only [cond_false]
  rw [show 2 + j - 2 = j by omega]
theorem lgF_low (p c : Int) (d : Nat → UInt8) (q : Value) (j : Nat) (h : j < 34) : lgF p c d q j = enF p c d j := by
  unfold lgF
  rw [show Nat.blt j 34 = true from by rw [Nat.blt_eq]; exact h]; rfl
theorem lgF_h (p c : Int) (d : Nat → UInt8) (q : Value) (j : Nat) (h : j < 32) : lgF p c d q (2 + j) = bF d j := by rw [lgF_low _ _ _ _ _ (by omega), enF_h _ _ _ _ h]
theorem lgF_set (p c p' c' : Int) (d d' : Nat → UInt8) (q : Value) (j : Nat) (_ : j < 35) : lgF p' c' d' q j = if 0 ≤ j ∧ j < 0 + 34 then enF p' c' d' (j - 0) else lgF p c d q j := by
  by_cases h : j < 34
  · rw [if_pos (by omega), lgF_low _ _ _ _ _ h, Nat.sub_zero]
  · rw [if_neg (by omega)]
    unfold lgF
    rw [show Nat.blt j 34 = false from by rw [← Bool.not_eq_true, Nat.blt_eq]; exact h]; rfl
theorem infoE : (Tryd.prog.info? 62).map (·.size) = some (33 + 1) := by kernel_rfl
theorem infoE' : (Tryd.prog.info? 62).map (·.size) = some 34 := by kernel_rfl
theorem info_pd : (Tryd.prog.info? 30).map (·.size) = some (0 + 1) := by kernel_rfl
theorem run_alloc_en (w : World) : (Instr.alloc 62 true (.tuple #[])).run Tryd.prog w = .ok (.pointer (some ⟨w.heap.size, 0, none⟩)) (w.alloc (.cells (rowA 34 (enF 0 0 fun _ => 0)) 62)) := by kernel_rfl
theorem run_bld_en (p c : Int) (d : Nat → UInt8) (w : World) : (Instr.build 62 #[(0, .int .i64 p), (1, .int .i64 c), (2, .agg (rowA 32 (bF d)))]).run Tryd.prog w = .ok (.agg (rowA 34 (enF p c d))) w := by kernel_rfl
theorem run_bld_lg (g : Nat) (w : World) : (Instr.build 64 #[(1, .pointer (some ⟨g, 0, none⟩))]).run Tryd.prog w = .ok (.agg (rowA 35 (lgF 0 0 (fun _ => 0) (.pointer (some ⟨g, 0, none⟩))))) w := by kernel_rfl
section
variable {a : Act} {w : World} {o : Oper} {K : Act → World → Prop} {Q : Exit → Act → World → Prop} {x y z : Operand} {g n o0 : Nat} {t' : TypeId} {F : Nat → Value}
theorem opr_bldE {p c : Int} {d : Nat → UInt8} (ho : o.op = .build 62 #[(0, x), (1, y), (2, z)]) (hx : a.eval x = .int .i64 p) (hy : a.eval y = .int .i64 c) (hz : a.eval z = .agg (rowA 32 (bF d))) (h : K (a.put o.dst (.agg (rowA 34 (enF p c d)))) w) : o.wp Tryd.prog a w K Q := by
  obtain ⟨dst, op, type, pos, after, guard⟩ := o
  simp only at ho
  subst ho
  exact opr_val (s := Instr.build 62 #[(0, a.eval x), (1, a.eval y), (2, a.eval z)]) (by simp [execOp]) (by rw [hx, hy, hz]; exact run_bld_en p c d w) h
theorem opr_fldE0 (ho : o.op = .fieldAddr 62 x 0) (hx : a.eval x = .pointer (some ⟨g, 0, none⟩)) (h : K (a.put o.dst (.pointer (some ⟨g, 0, none⟩))) w) : o.wp Tryd.prog a w K Q :=
  opr_fld Tryd.underlying62 rfl info_int ho hx (by rfl) h
theorem opr_fldE1 (ho : o.op = .fieldAddr 62 x 1) (hx : a.eval x = .pointer (some ⟨g, 0, none⟩)) (h : K (a.put o.dst (.pointer (some ⟨g, 1, none⟩))) w) : o.wp Tryd.prog a w K Q :=
  opr_fld Tryd.underlying62 rfl info_int ho hx (by rfl) h
theorem opr_fldE2 (ho : o.op = .fieldAddr 62 x 2) (hx : a.eval x = .pointer (some ⟨g, 0, none⟩)) (h : K (a.put o.dst (.pointer (some ⟨g, 2, none⟩))) w) : o.wp Tryd.prog a w K Q :=
  opr_fld Tryd.underlying62 rfl info_hash1 ho hx (by rfl) h
theorem opr_fldG0 (ho : o.op = .fieldAddr 64 x 0) (hx : a.eval x = .pointer (some ⟨g, 0, none⟩)) (h : K (a.put o.dst (.pointer (some ⟨g, 0, none⟩))) w) : o.wp Tryd.prog a w K Q :=
  opr_fld Tryd.underlying64 rfl infoE ho hx (by rfl) h
theorem opr_fldG1 (ho : o.op = .fieldAddr 64 x 1) (hx : a.eval x = .pointer (some ⟨g, 0, none⟩)) (h : K (a.put o.dst (.pointer (some ⟨g, 34, none⟩))) w) : o.wp Tryd.prog a w K Q :=
  opr_fld Tryd.underlying64 rfl info_pd ho hx (by rfl) h
/-- An end is loaded: of its own row, or of a log's. -/
theorem opr_ldE {p c : Int} {d : Nat → UInt8} (hr : w.rowIs g t' n F) (hn : 34 ≤ n) (hF : ∀ j, j < 34 → F j = enF p c d j) (ho : o.op = .load 62 x) (hx : a.eval x = .pointer (some ⟨g, 0, none⟩)) (h : K (a.put o.dst (.agg (rowA 34 (enF p c d)))) w) : o.wp Tryd.prog a w K Q := by
  refine opr_ldm Tryd.underlying62 rfl infoE' ho hx hr (by omega) ?_
  rwa [show (rowA 34 fun j => F (0 + j)) = rowA 34 (enF p c d) from by
    apply Array.ext_getElem?
    intro i
    by_cases hi : i < 34
    · rw [rowA_at _ _ _ hi, rowA_at _ _ _ hi, Nat.zero_add, hF i hi]
    · rw [Array.getElem?_eq_none (by rw [rowA_size]; omega), Array.getElem?_eq_none (by rw [rowA_size]; omega)]]
theorem opr_ldPD {v : Value} (hr : w.rowIs g t' n F) (hn : o0 < n) (hv : F o0 = v) (ho : o.op = .load 30 x) (hx : a.eval x = .pointer (some ⟨g, o0, none⟩)) (h : K (a.put o.dst v) w) : o.wp Tryd.prog a w K Q :=
  opr_ld1 Tryd.underlying30 rfl ho hx (by rw [hr.cell hn, hv]) h
theorem opr_alloc_en (ho : o.op = .alloc 62) (h : K (a.put o.dst (.pointer (some ⟨w.heap.size, 0, none⟩))) (w.alloc (.cells (rowA 34 (enF 0 0 fun _ => 0)) 62))) : o.wp Tryd.prog a w K Q := by
  obtain ⟨dst, op, type, pos, after, guard⟩ := o
  simp only at ho
  subst ho
  exact opr_val (s := Instr.alloc 62 true (.tuple #[])) rfl (run_alloc_en w) h
end
/-- Are two ends the same? -/
def eqE (p c : Int) (d : Nat → UInt8) (p' c' : Int) (d' : Nat → UInt8) : Bool := p == p' && (c == c' && eqH d d')
theorem eqType_end : Tryd.prog.eqGuardType Tryd.prog.depth 62 = false := by kernel_rfl
theorem run_part_int (p c : Int) (d : Nat → UInt8) (k : Nat) (hk : k < 34) (w : World) : (part 3 (rowA 34 (enF p c d)) k).run Tryd.prog w = .ok (enF p c d k) w := by
  have ha := run_isAgg_no (P := Tryd.prog) Tryd.underlying3 rfl w
  simp [part, ha, rowA_at _ _ _ hk]
theorem run_part_h (p c : Int) (d : Nat → UInt8) (w : World) : (part 48 (rowA 34 (enF p c d)) 2).run Tryd.prog w = .ok (.agg (rowA 32 (bF d))) w := by kernel_rfl
theorem equalIn_end (w : World) (p c : Int) (d : Nat → UInt8) (p' c' : Int) (d' : Nat → UInt8) : (Op.equalIn 10000 62 (.agg (rowA 34 (enF p c d))) (.agg (rowA 34 (enF p' c' d')))).run Tryd.prog w = .ok (eqE p c d p' c' d') w := by
  rw [run_equalIn_struct w 9999 62 _ _ Tryd.underlying62 (by kernel_rfl)]
  have hf : (Tryd.prog.fieldsOf 62).toList.map (fun f => (f.type, f.offset, f.name == "_")) = [(3, 0, false), (3, 1, false), (48, 2, false)] := by kernel_rfl
  obtain ⟨l, hl⟩ : ∃ l, (Tryd.prog.fieldsOf 62).toList = l := ⟨_, rfl⟩
  rw [hl] at hf ⊢
  obtain ⟨f1, f2, f3, rfl⟩ : ∃ f1 f2 f3, l = [f1, f2, f3] := by
    match l, hf with
    | [f1, f2, f3], _ => exact ⟨f1, f2, f3, rfl⟩
  simp only [List.map_cons, List.map_nil, List.cons.injEq, Prod.mk.injEq, beq_eq_false_iff_ne, and_true] at hf
  obtain ⟨⟨t1, o1, n1⟩, ⟨t2, o2, n2⟩, t3, o3, n3⟩ := hf
  have q1 := fun (a b : Int) => run_equalIn_int (P := Tryd.prog) w 9998 3 .i64 .i64 a b Tryd.underlying3
  have q3 : (Op.equalIn 9999 48 (.agg (rowA 32 (bF d))) (.agg (rowA 32 (bF d')))).run Tryd.prog w = .ok (eqH d d') w := equalIn_arr w 9997 48 5 32 .u8 Tryd.underlying48 Tryd.underlying5 info5s (fun i => bN (d i)) (fun i => bN (d' i))
  have g0 : enF p c d 0 = .int .i64 p := rfl
  have g0' : enF p' c' d' 0 = .int .i64 p' := rfl
  have g1 : enF p c d 1 = .int .i64 c := rfl
  have g1' : enF p' c' d' 1 = .int .i64 c' := rfl
  unfold eqE
  cases hp : (p == p') <;> cases hc : (c == c') <;> cases hd : eqH d d' <;>
  simp [Op.eqFields, n1, n2, n3, t1, t2, t3, o1, o2, o3, Sem.run_bind, Sem.run_pure, run_part_int _ _ _ _ (by omega : (0 : Nat) < 34), run_part_int _ _ _ _ (by omega : (1 : Nat) < 34), run_part_h, g0, g0', g1, g1', q1, q3, hp, hc, hd]
theorem opr_eqlE {a : Act} {w : World} {o : Oper} {K : Act → World → Prop} {Q : Exit → Act → World → Prop} {x y : Operand} {t2 : TypeId} {p c p' c' : Int} {d d' : Nat → UInt8} {b : Bool} (ho : o.op = .binOp .eql 62 x y t2) (hx : a.eval x = .agg (rowA 34 (enF p c d))) (hy : a.eval y = .agg (rowA 34 (enF p' c' d'))) (hb : eqE p c d p' c' d' = b) (h : K (a.put o.dst (.bool b)) w) : o.wp Tryd.prog a w K Q := by
  obtain ⟨dst, op, type, pos, after, guard⟩ := o
  simp only at ho
  subst ho hb
  refine opr_val (s := do eqGuard .eql 62 x y (a.eval x) (a.eval y); binOp .eql 62 (a.eval x) (a.eval y)) rfl ?_ h
  rw [hx, hy, Sem.run_bind, run_eqGuard_agg _ _ _ _ _ _ _ eqType_end]
  simp only [Result.andThen_ok]
  rw [run_eql_struct, equalIn_end]; rfl
/-- A value of the frame, and a row. -/
theorem results_tr {P : Program} {w : World} {fn : Func} {tmps : Array Value} {p u : Tmp} {tp t : TypeId} {d : TypeDesc} {n b : Nat} {f : Nat → Value} {v : Value} (hf : fn.results = #[.tmp u, .cell p tp]) (hp : tmps.getD p undef = .pointer (some ⟨b, 0, none⟩)) (hv : tmps.getD u undef = v)
    (h : w.rowIs b t n f) (hu : P.underlying tp = some d) (hd : d.isRow = true) (hi : (P.info? tp).map (·.size) = some n) : (results fn tmps).run P w = .ok (.tuple #[v, .agg (rowA n f)]) w := by
  have e1 := run_ldV_row (P := P) h hu hd hi
  have hp' : tmps[p]?.getD undef = .pointer (some ⟨b, 0, none⟩) := by simpa using hp
  have hv' : tmps[u]?.getD undef = v := by simpa using hv
  simp [results, hf, hp', hv', asAddr, e1]
/-- The value of an end. -/
def svEn (p c : Int) (d : Nat → UInt8) : SV NewT := .eq (.agg (rowA 34 (enF p c d)))
end Go.Proofs.YtbejolbknimmmaaDoor
/- slices.Clone of bytes; no bytes; bytes in a row that is new. -/
namespace Go.Proofs.YtbejolbknimmmaaDoor
open Go Go.RowKit
set_option maxRecDepth 8000
set_option linter.all false
theorem rdV_nil (W : World) (L : List Nat) : RdV W L (.slice none 0 0) [] := ⟨none, 0, rfl, Nat.le_refl _, by unfold maxLen; omega, fun h => absurd h (by simp)⟩
theorem rdN_own {W w : World} {v : Value} {n : Nat} {l : List UInt8} (h : w.ownsRow W.heap.size 5 1 v n (l.map fun b => .int .u8 (bN b))) (hl : l.length = n) : (svRdN W l).pred v w :=
  fun _ hL => rdV_own h hl hL
theorem svRdN_rd {W w : World} {v : Value} {l : List UInt8} (h : (svRdN W l).pred v w) (L : List Nat) (hL : ∀ k ∈ L, k < W.heap.size) : RdV w L v l := h L hL
set_option maxHeartbeats 400000 in
theorem Clone_cv (v : Value) (l : List UInt8) (L : List Nat) (w : World) (h : RdV w L v l) (hl : l.length ≤ 1000000) : Cv 41 #[v] w (svRdN w l) := by
  unfold Cv
  have H := Lib.hid h
  obtain ⟨A, cap, rfl, h1, h2, h3⟩ := h
  obtain ⟨i0, hi, hz0, hz1, hz2⟩ := info_parts info5
  have hq : ∀ (w : World) (a : Option Addr) (n c n' c' : Nat), (binOp .eql 33 (.slice a n c) (.slice none n' c')).run Tryd.prog w = .ok (.bool a.isNone) w := fun w a n c n' c' => Lib.run_eql_slice_nil w _ _ a n c n' c' Tryd.underlying33
  cases A with
  | none =>
    have h0 : l = [] := by
      cases l with
      | nil => rfl
      | cons b l => obtain ⟨_, _, h, _⟩ := h3 (by simp); cases h
    subst h0
    clear h3
    go_enter Tryd.func41, Tryd.ntmps41
    go_wp2
    go_ret
    exact ⟨_, rfl, NewT.refl _, fun L _ => rdV_nil _ _⟩
  | some a =>
    clear h3
    have r0 : (w.alloc (.cells #[] 5)).rowIs w.heap.size 5 0 (fun _ => undef) := rowIs_box w 5 0 (fun _ => undef)
    have o0 := ownsRow_row r0 w.heap.size 0 (by omega) (by unfold maxLen; omega) (Nat.le_refl _)
    have hB : Below w.heap.size w (w.alloc (.cells #[] 5)) := (Below.refl _ w).alloc (Nat.le_refl _) _
    have Hrd := Lib.hid (H.out.keep (KeepBut.below hB))
    generalize hn : l.length = n at *
    go_enter Tryd.func41, Tryd.ntmps41
    go_wp2_with (at_builtin; refine wpList_append_rd rfl (.tmp 5) (.tmp 6) 33 rfl (base := w.heap.size) Tryd.underlying33 hi hz0 hz1 hz2 rfl o0 rfl Hrd.out (by omega) hB.size ?_; intro v2 w2 o2 grow2)
    go_ret
    exact ⟨_, rfl, hB.grown grow2 hB.size (fun k e => (o0.lt k e).1), rdN_own o2 (by omega)⟩
end Go.Proofs.YtbejolbknimmmaaDoor
/- A number's bytes are put: wire.Num. -/
namespace Go.Proofs.YtbejolbknimmmaaDoor
open Go Go.RowKit
set_option maxRecDepth 8000
set_option linter.all false

theorem or128 (x : Int) : bits .or .u8 (IntKind.u8.wrap x) 128 = bN (uB ((x % 128).toNat + 128)) := by
  have h : ∀ k : Fin 256, bits .or .u8 (k.val : Int) 128 = ((k.val % 128 + 128 : Nat) : Int) := by decide +kernel
  rw [wrap_u8, bN, toNat_uB]
  have := h ⟨(x % 256).toNat, by omega⟩
  simp only at this
  rw [show (((x % 256).toNat : Nat) : Int) = x % 256 by omega] at this
  rw [this]; omega
theorem and127 (y : Nat) : bits .and .u8 (bN (uB (y % 128 + 128))) 127 = bN (uB (y % 128)) := by
  have h : ∀ k : Fin 256, bits .and .u8 (k.val : Int) 127 = ((k.val % 128 : Nat) : Int) := by decide +kernel
  rw [bN, bN, toNat_uB, toNat_uB]
  have := h ⟨(y % 128 + 128) % 256, by omega⟩
  simp only at this
  rw [this]; omega
/-- The place i, ahead of the last one's mask. -/
def numC (n s i : Nat) : UInt8 := uB (n / 2 ^ (7 * (s - 1 - i)) % 128 + 128)
theorem numC_eq (n s i : Nat) : bits .or .u8 ((n : Int) / 2 ^ (7 * (s - 1 - i)) % 256) 128 = bN (numC n s i) := by
  rw [← wrap_u8, or128, numC]
  have h2 : ((2 : Int) ^ (7 * (s - 1 - i))) = ((2 ^ (7 * (s - 1 - i)) : Nat) : Int) := by simp
  rw [h2, ← Int.natCast_ediv]
  congr 2
theorem sz_test (n k : Nat) (hn : n ≤ 2147483647) (hk : 1 ≤ k) (hk2 : k ≤ sz n) : (0 < (n : Int) / 2 ^ (7 * k)) ↔ k < sz n := by
  have h5 := sz_le n
  have hh : k = 1 ∨ k = 2 ∨ k = 3 ∨ k = 4 ∨ k = 5 := by omega
  unfold sz at *
  rcases hh with rfl | rfl | rfl | rfl | rfl
  all_goals
    simp only [Nat.reduceMul, Int.reducePow]
    split <;> (try split) <;> (try split) <;> (try split) <;> omega
set_option maxHeartbeats 1000000 in
theorem Num_in (n : Nat) (hn : n ≤ 2147483647) (w : World) : Cv 53 #[.int .i64 (n : Int)] w (svRdN w (numL n)) := by
  unfold Cv
  obtain ⟨s, hs⟩ : ∃ s, sz n = s := ⟨_, rfl⟩
  have h1 := sz_pos n
  have h5 := sz_le n
  have hT := sz_test n
  have hrow := numL_row n hn
  rw [hs] at h1 h5 hT hrow
  have Hrow := Lib.hid hrow
  have HT := Lib.hid hT
  have Hs := Lib.hid hs
  clear hT hrow hs
  obtain ⟨i0, hi, hz0, hz1, hz2⟩ := info_parts info5
  have hmk : ∀ W : World, (Instr.makeSlice 33 (.int .i64 (s : Int)) (.int .i64 (s : Int))).run Tryd.prog W = .ok (.slice (some ⟨W.heap.size, 0, none⟩) s s) (W.alloc (.cells (rowA s (bF fun _ => 0)) 5)) := make_bytes i0 hi hz0 hz1 hz2 s (by omega)
  have HB := Lib.hid (numC_eq n s)
  clear hi hz0 hz1 hz2
  go_enter Tryd.func53, Tryd.ntmps53
  go_wp2
  go_loop [3] (fun i => ∃ k : Nat, 1 ≤ k ∧ k ≤ s ∧ i = .int .i64 k) (fun i => s - (intOf i).toNat)
  case atStart => exact ⟨1, by omega, by omega, rfl⟩
  case round =>
    obtain ⟨k, hk1, hk, rfl⟩ := hrel
    have e7 : ((7 : Int) * (k : Int)).toNat = 7 * k := by omega
    have ht := HT.out k hn hk1 hk
    by_cases hlt : k < s
    · have ht1 : 0 < (n : Int) / 2 ^ (7 * k) := ht.2 hlt
      clear ht
      go_wp2
      go_round
      case rel => exact ⟨k + 1, by omega, by omega, by go_num⟩
      case measure => simp [intOf]; omega
    · have ht1 : ¬ 0 < (n : Int) / 2 ^ (7 * k) := fun h => hlt (ht.1 h)
      clear ht
      obtain rfl : k = s := by omega
      go_wp2
      have r0 := rowIs_box w 5 k (bF fun _ => 0)
      have hB : Below w.heap.size w (w.alloc (.cells (rowA k (bF fun _ => 0)) 5)) := (Below.refl _ w).alloc (Nat.le_refl _) _
      generalize w.alloc (.cells (rowA k (bF fun _ => 0)) 5) = W0 at r0 hB ⊢
      clear hmk ht1 hlt e7
      go_loopw [23] (fun i wr => ∃ j : Nat, j ≤ k ∧ i = .int .i64 j ∧ wr.rowIs w.heap.size 5 k (bF (putTo (numC n k) j)) ∧ Below w.heap.size w wr) (fun i _ => k - (intOf i).toNat)
      case atStart => exact ⟨0, by omega, rfl, r0.congr fun i _ => by simp [bF, putTo], hB⟩
      case round =>
        obtain ⟨j, hj, rfl, q0, qB⟩ := hrel
        clear r0 hB
        by_cases hlt : j < k
        · have c0 := q0.cell (i := j) hlt
          have f0 := q0.frozen j
          have e7 : ((7 : Int) * ((k : Int) - 1 - (j : Int))).toNat = 7 * (k - 1 - j) := by omega
          have hb8 := HB.out j
          go_wp2
          go_roundw
          case rel => exact ⟨j + 1, by omega, by go_num, (q0.set j _).congr fun i _ => putTo_set _ j i, qB.setCell (by simp) _⟩
          case measure => simp [intOf]; omega
        · obtain rfl : j = k := by omega
          obtain ⟨m, rfl⟩ : ∃ m, j = m + 1 := ⟨j - 1, by omega⟩
          have c0 := q0.cell (i := m) (by omega)
          have f0 := q0.frozen m
          have e1 : bN (putTo (numC n (m + 1)) (m + 1) m) = bN (uB (n % 128 + 128)) := by
            rw [putTo, if_pos (by omega), numC, show m + 1 - 1 - m = 0 by omega]; simp
          rw [bF_at, e1] at c0
          have h127 := and127 n
          obtain ⟨y, hy⟩ : ∃ y, uB (n % 128 + 128) = y := ⟨_, rfl⟩
          rw [hy] at c0 h127
          clear hy e1
          go_wp2
          go_ret
          refine ⟨_, rfl, qB.setCell (by simp) _, fun L hL => ?_⟩
          have q1 := (q0.set m (.int .u8 (bN (uB (n % 128))))).congr (g := bF (numB n (m + 1))) fun i hi => by
            by_cases hm : i = m
            · subst hm
              rw [if_pos rfl, bF_at, numB, if_pos rfl, show i + 1 - 1 - i = 0 by omega]; simp
            · rw [if_neg hm, bF_at, bF_at, putTo, if_pos hi, numB, if_neg (by omega), numC]
          have := rd_row (L := L) q1 (fun hm => by have := hL _ hm; omega) (by omega)
          rw [← Hrow.out] at this
          exact this
set_option maxHeartbeats 400000 in
theorem Num_out (n : Int) (hn : ¬ (0 ≤ n ∧ n ≤ 2147483647)) (w : World) : Cv 53 #[.int .i64 n] w (svRdN w []) := by
  unfold Cv
  by_cases h0 : n < 0
  · go_enter Tryd.func53, Tryd.ntmps53
    go_wp2
    go_ret
    exact ⟨_, rfl, NewT.refl _, fun L _ => rdV_nil _ _⟩
  · have h1 : 2147483647 < n := by omega
    clear hn
    go_enter Tryd.func53, Tryd.ntmps53
    go_wp2
    go_ret
    exact ⟨_, rfl, NewT.refl _, fun L _ => rdV_nil _ _⟩
/-- Whatever number. -/
theorem Num_cv (n : Int) (w : World) : Cv 53 #[.int .i64 n] w (svRdN w (numI n)) := by
  unfold numI
  by_cases h : 0 ≤ n ∧ n ≤ 2147483647
  · rw [if_pos h]
    obtain ⟨m, rfl⟩ := Int.eq_ofNat_of_zero_le h.1
    exact Num_in m (by omega) w
  · rw [if_neg h]; exact Num_out n h w
end Go.Proofs.YtbejolbknimmmaaDoor
/- A reader: a block of two cells, what is left and the error; what its small calls answer. -/
namespace Go.Proofs.YtbejolbknimmmaaDoor
open Go Go.RowKit
set_option maxRecDepth 8000
set_option linter.all false

/-- It reads as l, in a block ahead of R. -/
def Rest (w : World) (R : Nat) (v : Value) (l : List UInt8) : Prop := ∀ L, (∀ k ∈ L, R ≤ k) → RdV w L v l
theorem Rest.rd {w : World} {R : Nat} {v : Value} {l : List UInt8} (h : Rest w R v l) : RdV w [R] v l := h [R] (by simp)
theorem Rest.new {w w' : World} {R : Nat} {v : Value} {l : List UInt8} (h : Rest w R v l) (hN : NewT w w') : Rest w' R v l := fun L hL => hN.rd (h L hL)
theorem Rest.keep {w w' : World} {R : Nat} {v : Value} {l : List UInt8} (h : Rest w R v l) {G : List Nat} (hG : ∀ k ∈ G, R ≤ k) (hK : KeepBut G w w') : Rest w' R v l := fun L hL => by
  have h1 := h (G ++ L) (fun k hk => by rcases List.mem_append.1 hk with hk | hk; exact hG k hk; exact hL k hk)
  obtain ⟨A, cap, hv, h1, h2, h3⟩ := h1.keep (hK.more fun k hk => List.mem_append.2 (.inl hk))
  refine ⟨A, cap, hv, h1, h2, fun h0 => ?_⟩
  obtain ⟨b, o, hA, hb, hc⟩ := h3 h0
  exact ⟨b, o, hA, fun hm => hb (List.mem_append.2 (.inr hm)), hc⟩
/-- Block R is a reader: l is left, its error is e. -/
def Rdr (w : World) (R : Nat) (l : List UInt8) (e : Int) : Prop :=
  ∃ v, w.rowIs R 96 2 (fun i => if i = 0 then v else .int .i64 e) ∧ Rest w R v l ∧ (e ≠ 0 → l = [])
theorem Rdr.new {w w' : World} {R : Nat} {l : List UInt8} {e : Int} (h : Rdr w R l e) (hN : NewT w w') : Rdr w' R l e := by
  obtain ⟨v, h1, h2, h3⟩ := h
  exact ⟨v, hN.row h1, h2.new hN, h3⟩
/-- Blocks behind R are written. -/
theorem Rdr.keep {w w' : World} {R : Nat} {l : List UInt8} {e : Int} (h : Rdr w R l e) {G : List Nat} (hG : ∀ k ∈ G, R < k) (hK : KeepBut G w w') : Rdr w' R l e := by
  obtain ⟨v, h1, h2, h3⟩ := h
  exact ⟨v, hK.row (fun hm => by have := hG _ hm; omega) h1, h2.keep (fun k hk => by have := hG k hk; omega) hK, h3⟩
theorem Rdr.lt {w : World} {R : Nat} {l : List UInt8} {e : Int} (h : Rdr w R l e) : R < w.heap.size := by
  obtain ⟨v, h1, _⟩ := h; exact h1.lt
theorem Rdr.drew {w : World} {R : Nat} {l : List UInt8} {e : Int} (h : Rdr w R l e) : Rdr w.drew R l e := h.new (NewT.drew w)

set_option maxHeartbeats 400000 in
theorem Bad_any (R : Nat) (l : List UInt8) (e : Int) (w : World) (h : Rdr w R l e) : Cv 74 #[.pointer (some ⟨R, 0, none⟩)] w (.eq (.int .i64 e)) := by
  obtain ⟨v, h1, h2, h3⟩ := h
  have c1 := h1.cell (i := 1) (by omega)
  unfold Cv
  go_enter Tryd.func74, Tryd.ntmps74
  go_wp2
  go_ret
  exact ⟨_, rfl, NewT.refl _, rfl⟩
theorem NewT.of_eq {w w' : World} (h : w = w') : NewT w w' := h ▸ NewT.refl w
set_option maxHeartbeats 400000 in
/-- A reader that isn't bad is made so. -/
theorem Fail_good (R : Nat) (l : List UInt8) (x : Int) (hx : x ≠ 0) (w : World) (h : Rdr w R l 0) : Calls Tryd.prog 75 #[.pointer (some ⟨R, 0, none⟩), .int .i64 x] w fun e w' => e = .returned (.tuple #[]) ∧ RT R w w' ∧ Rdr w' R [] x := by
  have H := Lib.hid h
  clear h
  have hd : (x != 0) = true := by simpa using hx
  go_enter Tryd.func75, Tryd.ntmps75
  go_wp2_with (go_at_call 74; refine (Bad_any R l 0 w H.out).eq.mono ?_; rintro _ w' ⟨rfl, hB⟩; obtain ⟨v, h1, h2, h3⟩ := H.out.new hB; have f0 := h1.frozen 0; have f1 := h1.frozen 1; have c0 := h1.cell (i := 0) (by omega); have c1 := h1.cell (i := 1) (by omega); simp only [if_true, if_false, Nat.one_ne_zero] at c0 c1)
  go_end0
  have hR : R < w.heap.size := H.out.lt
  refine ⟨rfl, RT.trans _ _ _ (RT.new hR hB) (RT.trans _ _ _ (RT.setCell w' 0 _) (RT.setCell _ 1 _)), .slice none 0 0, ?_, fun _ _ => rdV_nil _ _, fun _ => rfl⟩
  exact ((h1.set 0 _).set 1 _).congr fun i hi => by
    have : i = 0 ∨ i = 1 := by omega
    rcases this with rfl | rfl <;> simp
/-- A reader that is bad is left as it is. -/
theorem Fail_bad (R : Nat) (l : List UInt8) (e x : Int) (he : e ≠ 0) (w : World) (h : Rdr w R l e) : Calls Tryd.prog 75 #[.pointer (some ⟨R, 0, none⟩), .int .i64 x] w fun e' w' => e' = .returned (.tuple #[]) ∧ RT R w w' ∧ Rdr w' R l e := by
  have H := Lib.hid h
  have hR : R < w.heap.size := h.lt
  clear h
  have hd2 : (e == 0) = false := by simpa using he
  by_cases hx : x = 0
  · subst hx
    go_enter Tryd.func75, Tryd.ntmps75
    go_wp2
    go_end0
    exact ⟨rfl, RT.refl _ _, H.out⟩
  · have hd : (x != 0) = true := by simpa using hx
    go_enter Tryd.func75, Tryd.ntmps75
    go_wp2_with (go_at_call 74; refine (Bad_any R l e w H.out).eq.mono ?_; rintro _ w' ⟨rfl, hB⟩)
    go_end0
    exact ⟨rfl, RT.new hR hB, H.out.new hB⟩
end Go.Proofs.YtbejolbknimmmaaDoor
/- What puts: Flag, All, Bytes, Hash; Clone; a new reader. -/
namespace Go.Proofs.YtbejolbknimmmaaDoor
open Go Go.RowKit
set_option maxRecDepth 8000
set_option linter.all false

theorem flat_take_succ (ps : List (Value × List UInt8)) (k : Nat) (x : Value × List UInt8) (h : ps[k]? = some x) : flat (ps.take (k + 1)) = flat (ps.take k) ++ x.2 := by
  rw [List.take_add_one, h]; exact flat_snoc _ _
theorem flat_take_le (ps : List (Value × List UInt8)) (k : Nat) : (flat (ps.take k)).length ≤ (flat ps).length := by
  have e : flat ps = flat (ps.take k) ++ flat (ps.drop k) := by
    unfold flat; rw [← List.flatten_append, ← List.map_append, List.take_append_drop]
  rw [e]; simp
set_option maxHeartbeats 1000000 in
theorem All_any (pv : Value) (ps : List (Value × List UInt8)) (w : World) (hp : PartsAt w [] pv ps) (ht : (flat ps).length ≤ 1000000) : Cv 49 #[pv] w (svRdN w (flat ps)) := by
  unfold Cv
  obtain ⟨A, cap, rfl, h1, h2, h3, h4⟩ := hp
  have H3 := Lib.hid h3
  have H4 := Lib.hid h4
  clear h3 h4
  unfold maxLen at h2
  obtain ⟨i0, hi, hz0, hz1, hz2⟩ := info_parts info5
  generalize hn : ps.length = n at *
  go_enter Tryd.func49, Tryd.ntmps49
  go_wp2
  go_loopw [3, 8] (fun v i wr => ∃ k : Nat, k ≤ n ∧ i = .int .i64 k ∧ wr.ownsRow w.heap.size 5 1 v (flat (ps.take k)).length ((flat (ps.take k)).map fun b => .int .u8 (bN b)) ∧ Below w.heap.size w wr) (fun _ i _ => n - (intOf i).toNat)
  case atStart => exact ⟨0, by omega, rfl, World.ownsRow_nil _ _ _ _, Below.refl _ _⟩
  case round =>
    obtain ⟨k, hk, rfl, hown, qB⟩ := hrel
    by_cases hlt : k < n
    · obtain ⟨b, o, rfl, _, hcells⟩ := H3.out (by omega)
      have hx : ps[k]? = some ps[k] := List.getElem?_eq_getElem (by omega)
      have hc := (KeepBut.below (L := []) qB).cell (a := ⟨b, o + k, none⟩) (by simp) (hcells k _ hx)
      have hrd := (H4.out ps[k] (List.getElem_mem (by omega))).keep (KeepBut.below qB)
      have hfs := flat_take_succ ps k _ hx
      have hfl := flat_take_le ps (k + 1)
      rw [hfs, List.length_append] at hfl
      generalize ps[k] = x at hc hrd hfs hfl
      have Hfs := Lib.hid hfs
      have Hrd := Lib.hid hrd
      clear hfs hrd hx hcells
      generalize hm : (flat (ps.take k)).length = m at hown hfl
      go_wp2_with (at_builtin; refine wpList_append_rd rfl (.tmp 12) (.tmp 13) 33 rfl (base := w.heap.size) Tryd.underlying33 hi hz0 hz1 hz2 rfl hown rfl Hrd.out (by omega) qB.size ?_; intro v2 w2 o2 grow2)
      go_roundw
      case rel =>
        refine ⟨k + 1, by omega, by go_num, ?_, qB.grown grow2 qB.size (fun k e => (hown.lt k e).1)⟩
        rw [Hfs.out, List.length_append, List.map_append, hm]; exact o2
      case measure => simp [intOf]; omega
    · obtain rfl : k = n := by omega
      rw [← hn, List.take_length] at hown
      go_wp2
      go_ret
      exact ⟨_, rfl, qB, rdN_own hown rfl⟩
theorem All_cv (pv : Value) (ls : List (List UInt8)) (l : List UInt8) (w : World) (hp : Parts w pv ls) (hl : ls.flatten = l) (ht : l.length ≤ 1000000) : Cv 49 #[pv] w (svRdN w l) := by
  obtain ⟨ps, hp, rfl⟩ := hp
  subst hl
  exact All_any pv ps w hp ht
end Go.Proofs.YtbejolbknimmmaaDoor
/- Clone; Bytes, Hash; a new reader. -/
namespace Go.Proofs.YtbejolbknimmmaaDoor
open Go Go.RowKit
set_option maxRecDepth 8000
set_option linter.all false

set_option maxHeartbeats 1000000 in
theorem WBytes_cv (v : Value) (l : List UInt8) (w : World) (h : RdV w [] v l) (hl : l.length ≤ 900000) : Cv 50 #[v] w (svRdN w (numL l.length ++ l)) := by
  unfold Cv
  have H := Lib.hid h
  obtain ⟨A, cap, rfl, h1, h2, h3⟩ := h
  clear h3
  generalize hn : l.length = n at *
  have h5 := sz_le n
  have hnl : (numL n).length ≤ 5 := by rw [numL_length]; exact h5
  have hni := numI_nat n (by omega)
  generalize numL n = m at hnl hni
  have Hn := Lib.hid hn
  have Hni := Lib.hid hni
  clear hn hni h5
  go_enter Tryd.func50, Tryd.ntmps50
  go_wp2_with (first
    | (go_at_call 53; refine Calls.mono (Num_cv n w) ?_; rintro _ w1 ⟨v1, rfl, hN1, hv1⟩; rw [Hni.out] at hv1; obtain ⟨A1, c1, rfl⟩ := rdV_form (hv1 [] (by simp)))
    | (go_at_call 49
       have hP : Parts (w1.alloc (.cells #[.slice A1 m.length c1, .slice A n cap] 33)) (.slice (some ⟨w1.heap.size, 0, none⟩) 2 2) [m, l] :=
         ⟨[(.slice A1 m.length c1, m), (.slice A n cap, l)], parts_new [(.slice A1 m.length c1, m), (.slice A n cap, l)] 33 (by simp) (by simp) (by simp; exact ⟨hv1 [] (by simp), hN1.rd H.out⟩), rfl⟩
       refine Calls.mono (All_cv _ [m, l] (m ++ l) _ hP (by simp) (by have := Hn.out; simp; omega)) ?_; rintro _ w2 ⟨v2, rfl, hN2, hv2⟩))
  go_ret
  refine ⟨_, rfl, NewT.trans _ _ _ hN1 (NewT.trans _ _ _ (NewT.alloc _ _) hN2), fun L hL => hv2 L fun k hk => ?_⟩
  have := hL k hk
  have := hN1.out.size
  simp; omega
set_option maxHeartbeats 1000000 in
/-- A new reader. -/
theorem Read_any (v : Value) (l : List UInt8) (w : World) (h : RdV w [] v l) (hl : l.length ≤ 1000000) : Calls Tryd.prog 54 #[v] w fun e w' => ∃ R, e = .returned (.pointer (some ⟨R, 0, none⟩)) ∧ NewT w w' ∧ w.heap.size ≤ R ∧ Rdr w' R l 0 := by
  have H := Lib.hid h
  clear h
  go_enter Tryd.func54, Tryd.ntmps54
  go_wp2_with (go_at_call 41; refine Calls.mono (Clone_cv v l [] w H.out hl) ?_; rintro _ w1 ⟨v1, rfl, hN1, hv1⟩; obtain ⟨A1, c1, hv1e⟩ := rdV_form (hv1 [] (by simp)))
  go_ret
  refine ⟨_, rfl, NewT.trans _ _ _ hN1 (NewT.alloc _ _), hN1.out.size, v1, ?_, ?_, fun h => absurd rfl h⟩
  · rw [hv1e]
    exact (rowIs_box w1 96 2 (fun i => if i = 0 then .slice A1 l.length c1 else .int .i64 0))
  · exact fun L hL => ((hv1 [] (by simp)).more (fun k hk _ hm => by have := hL k hm; omega)).keep (KeepBut.alloc _ _)
end Go.Proofs.YtbejolbknimmmaaDoor
/- Bytes are read as a number: wire.number. -/
namespace Go.Proofs.YtbejolbknimmmaaDoor
open Go Go.RowKit
set_option maxRecDepth 8000
set_option linter.all false

theorem and127b (c : UInt8) : bits .and .u8 (bN c) 127 = ((c.toNat % 128 : Nat) : Int) := by
  have h : ∀ k : Fin 256, bits .and .u8 (k.val : Int) 127 = ((k.val % 128 : Nat) : Int) := by decide +kernel
  have := h ⟨c.toNat, c.toNat_lt⟩
  exact this
theorem and128b (c : UInt8) : bits .and .u8 (bN c) 128 = if 128 ≤ c.toNat then 128 else 0 := by
  have h : ∀ k : Fin 256, bits .and .u8 (k.val : Int) 128 = if 128 ≤ k.val then 128 else 0 := by decide +kernel
  have := h ⟨c.toNat, c.toNat_lt⟩
  exact this
theorem or7 (v m : Nat) (hm : m < 128) (hv : v < 1125899906842624) : bits .or .u64 ((v : Int) * 128) (m : Int) = ((v * 128 + m : Nat) : Int) := by
  show IntKind.u64.wrap (((BitVec.ofInt 64 ((v : Int) * 128) ||| BitVec.ofInt 64 (m : Int)).toNat : Nat) : Int) = _
  have e1 : BitVec.ofInt 64 ((v : Int) * 128) = BitVec.ofNat 64 (v * 128) := by
    rw [show (v : Int) * 128 = ((v * 128 : Nat) : Int) by omega, BitVec.ofInt_natCast]
  rw [e1, BitVec.ofInt_natCast, BitVec.toNat_or, BitVec.toNat_ofNat, BitVec.toNat_ofNat, Nat.mod_eq_of_lt (by omega), Nat.mod_eq_of_lt (by omega)]
  have := Nat.shiftLeft_add_eq_or_of_lt (b := m) (i := 7) (by omega) v
  rw [Nat.shiftLeft_eq] at this
  rw [show v * 128 = v * 2 ^ 7 by omega, ← this]
  simp [IntKind.wrap, IntKind.bits, IntKind.signed]
  omega
theorem drop_bAt (l : List UInt8) (k : Nat) (h : k < l.length) : l.drop k = bAt l k :: l.drop (k + 1) := by
  rw [List.drop_eq_getElem_cons h]; simp [bAt, h]
/-- What is read, as values. -/
def numV (r : Nat × Nat × Nat) : Value := .tuple #[.int .i64 (r.1 : Int), .int .i64 (r.2.1 : Int), .int .i64 (r.2.2 : Int)]
set_option maxHeartbeats 2000000 in
theorem number_cv (v : Value) (l : List UInt8) (L : List Nat) (w : World) (h : RdV w L v l) (hl : l.length ≤ 1000000) : Cv 66 #[v] w (.eq (numV (goN l 0 0))) := by
  unfold Cv
  obtain ⟨A, cap, rfl, h1, h2, h3⟩ := h
  have H3 := Lib.hid h3
  clear h3
  unfold maxLen at h2
  generalize hn : l.length = n at *
  have Hn := Lib.hid hn
  clear hn
  go_enter Tryd.func66, Tryd.ntmps66
  go_wp2
  go_loop [5, 10] (fun x i => ∃ k s : Nat, k ≤ n ∧ k ≤ 5 ∧ i = .int .i64 k ∧ x = .int .u64 (s : Int) ∧ Hid (s < 128 ^ k) ∧ Hid (goN l 0 0 = goN (l.drop k) k s)) (fun _ i => n - (intOf i).toNat)
  case atStart => exact ⟨0, 0, by omega, by omega, rfl, rfl, Lib.hid (by simp), Lib.hid rfl⟩
  case round =>
    obtain ⟨k, s, hk, hk5, rfl, rfl, Hs, Hg⟩ := hrel
    by_cases hlt : k < n
    · obtain ⟨b, o, rfl, _, hcell⟩ := H3.out (by omega)
      have c0 := hcell k hlt
      have Hd := Lib.hid (drop_bAt l k (by rw [Hn.out]; exact hlt))
      generalize bAt l k = c at c0 Hd
      have ht := c.toNat_lt
      have hs5 : s < 34359738368 := Nat.lt_of_lt_of_le Hs.out (Nat.le_trans (Nat.pow_le_pow_right (by omega) hk5) (by omega))
      have a7 := and127b c
      have a8 := and128b c
      have o7 := or7 s (c.toNat % 128) (by omega) (by omega)
      have Hg2 : Hid (goN l 0 0 = goN (c :: l.drop (k + 1)) k s) := Lib.hid (by rw [Hg.out, Hd.out])
      clear hcell Hg Hd
      have hbc : bN c = (c.toNat : Int) := rfl
      generalize hct : c.toNat = m at *
      have Hct := Lib.hid hct
      clear hct
      obtain ⟨r, hr⟩ : ∃ r, m % 128 = r := ⟨_, rfl⟩
      have hr7 : r < 128 := by omega
      rw [hr] at a7 o7
      have Hr := Lib.hid hr
      clear hr
      by_cases hbad : (k = 0 ∧ m = 128) ∨ k = 5
      · have hres : goN l 0 0 = (0, 0, 2) := by rw [Hg2.out, goN, if_pos (by rw [Hct.out]; exact hbad)]
        have Hres := Lib.hid hres
        clear hres a7 a8 o7
        rw [hbc] at c0
        clear hbc
        rcases hbad with ⟨hk0, hm8⟩ | hk0
        · have q0 : ((k : Int) == 0) = true := by simp; omega
          have q8 : ((m : Int) == 128) = true := by simp; omega
          clear hk0 hm8
          go_wp2
          go_ret3
          exact ⟨_, rfl, NewT.refl _, by rw [Hres.out]; rfl⟩
        · have q0 : ((k : Int) == 0) = false := by simp; omega
          have q5 : ((k : Int) == 5) = true := by simp; omega
          clear hk0
          go_wp2
          go_ret3
          exact ⟨_, rfl, NewT.refl _, by rw [Hres.out]; rfl⟩
      · rw [hbc] at c0 a7 a8
        clear hbc
        have hk4 : k ≤ 4 := by omega
        have q5 : ((k : Int) == 5) = false := by simp; omega
        have t1 : k = 0 → ((m : Int) == 128) = false := fun h => by
          simp; omega
        have T1 := Lib.hid t1
        clear t1
        by_cases hm : 128 ≤ m
        · rw [if_pos hm] at a8
          have hres : goN l 0 0 = goN (l.drop (k + 1)) (k + 1) (s * 128 + r) := by
            rw [Hg2.out, goN, if_neg (by rw [Hct.out]; exact hbad), if_pos (by rw [Hct.out]; exact hm), Hct.out, Hr.out]
          have Hres := Lib.hid hres
          have hsn : s * 128 + r < 128 ^ (k + 1) := by
            have := Hs.out
            rw [Nat.pow_succ]; omega
          have Hsn := Lib.hid hsn
          clear hres hsn hbad
          by_cases hk0 : k = 0
          · have q0 : ((k : Int) == 0) = true := by simp; omega
            have hm8 : ((m : Int) == 128) = false := T1.out hk0
            clear hk0
            go_wp2
            go_round
            case rel => exact ⟨k + 1, s * 128 + r, by omega, by omega, by go_num, rfl, Hsn, Hres⟩
            case measure => simp [intOf]; omega
          · have q0 : ((k : Int) == 0) = false := by simp; omega
            clear hk0
            go_wp2
            go_round
            case rel => exact ⟨k + 1, s * 128 + r, by omega, by omega, by go_num, rfl, Hsn, Hres⟩
            case measure => simp [intOf]; omega
        · rw [if_neg hm] at a8
          have hres : goN l 0 0 = if 2147483647 < s * 128 + r then (0, 0, 2) else (s * 128 + r, k + 1, 0) := by
            rw [Hg2.out, goN, if_neg (by rw [Hct.out]; exact hbad), if_neg (by rw [Hct.out]; exact hm), Hct.out, Hr.out]
          obtain ⟨s2, hs2⟩ : ∃ s2, s * 128 + r = s2 := ⟨_, rfl⟩
          rw [hs2] at hres o7
          have hs2b : s2 < 9223372036854775807 := by omega
          clear hbad hs2
          by_cases hmax : 2147483647 < s2
          · rw [if_pos hmax] at hres
            have Hres := Lib.hid hres
            clear hres
            by_cases hk0 : k = 0
            · have q0 : ((k : Int) == 0) = true := by simp; omega
              have hm8 : ((m : Int) == 128) = false := T1.out hk0
              clear hk0
              go_wp2
              go_ret3
              exact ⟨_, rfl, NewT.refl _, by rw [Hres.out]; rfl⟩
            · have q0 : ((k : Int) == 0) = false := by simp; omega
              clear hk0
              go_wp2
              go_ret3
              exact ⟨_, rfl, NewT.refl _, by rw [Hres.out]; rfl⟩
          · rw [if_neg hmax] at hres
            have Hres := Lib.hid hres
            clear hres
            by_cases hk0 : k = 0
            · have q0 : ((k : Int) == 0) = true := by simp; omega
              have hm8 : ((m : Int) == 128) = false := T1.out hk0
              clear hk0
              go_wp2
              go_ret3
              exact ⟨_, rfl, NewT.refl _, by rw [Hres.out]; rfl⟩
            · have q0 : ((k : Int) == 0) = false := by simp; omega
              clear hk0
              go_wp2
              go_ret3
              exact ⟨_, rfl, NewT.refl _, by rw [Hres.out]; rfl⟩
    · obtain rfl : k = n := by omega
      have hres : goN l 0 0 = (0, 0, 3) := by rw [Hg.out, List.drop_of_length_le (by rw [Hn.out]; exact Nat.le_refl _), goN]
      have Hres := Lib.hid hres
      clear hres
      go_wp2
      go_ret3
      exact ⟨_, rfl, NewT.refl _, by rw [Hres.out]; rfl⟩
end Go.Proofs.YtbejolbknimmmaaDoor
/- A reader reads a number: take[int], Num. -/
namespace Go.Proofs.YtbejolbknimmmaaDoor
open Go Go.RowKit
set_option maxRecDepth 8000
set_option linter.all false

/-- What stands behind the first k bytes. -/
theorem rd_from {w : World} {L : List Nat} {b o n cap k : Nat} {l : List UInt8} (h : RdV w L (.slice (some ⟨b, o, none⟩) n cap) l) (hk : k ≤ n) :
    RdV w L (.slice (some (if cap = k then ⟨b, o, none⟩ else (⟨b, o, none⟩ : Addr).add k)) (n - k) (cap - k)) (l.drop k) := by
  obtain ⟨A, c, hv, h1, h2, h3⟩ := h
  cases hv
  refine ⟨some (if cap = k then ⟨b, o, none⟩ else (⟨b, o, none⟩ : Addr).add k), cap - k, by simp, by simp; omega, by omega, fun h0 => ?_⟩
  simp at h0
  obtain ⟨b', o', hA, hb, hc⟩ := h3 (by omega)
  cases hA
  refine ⟨b, o + k, by rw [if_neg (by omega), Addr.add_mid], hb, fun i hi => ?_⟩
  simp at hi
  rw [Nat.add_assoc, hc (k + i) (by omega)]
  simp [bAt]
/-- The reader stands elsewhere. -/
theorem Rdr.put {w w' : World} {R : Nat} {v v' : Value} {e e' : Int} {l' : List UInt8} (h1 : w.rowIs R 96 2 (fun i => if i = 0 then v else .int .i64 e)) (hw : w.setCell ⟨R, 0, none⟩ v' = w') (hr : Rest w R v' l') (he : e = e') (hz : e' = 0) : Rdr w' R l' e' := by
  subst hw he
  refine ⟨v', (h1.set 0 v').congr fun i hi => ?_, hr.keep (by simp) (RT.setCell (R := R) w 0 v').keep, fun h => absurd hz h⟩
  by_cases h0 : i = 0
  · simp [h0]
  · simp [h0]
/-- What a number that is asked for turns a reader that isn't bad to. -/
def outN (l : List UInt8) : Nat × List UInt8 × Nat := if (goN l 0 0).2.2 = 0 then ((goN l 0 0).1, l.drop (goN l 0 0).2.1, 0) else (0, [], (goN l 0 0).2.2)
end Go.Proofs.YtbejolbknimmmaaDoor
/- A reader reads a flag: take[bool], Flag. -/
namespace Go.Proofs.YtbejolbknimmmaaDoor
open Go Go.RowKit
set_option maxRecDepth 8000
set_option linter.all false

/-- Bytes read as a flag: it, how many bytes it has, the error. -/
def goF : List UInt8 → Bool × Nat × Nat
  | [] => (false, 0, 3)
  | c :: _ => if 1 < c.toNat then (false, 0, 2) else (c.toNat == 1, 1, 0)
theorem goF_bounds (l : List UInt8) : (goF l).2.2 = 0 → (goF l).2.1 = 1 ∧ 1 ≤ l.length := by
  cases l with
  | nil => simp [goF]
  | cons c r => rw [goF]; split <;> simp
theorem goF_err (l : List UInt8) : (goF l).2.2 ≠ 0 → goF l = (false, 0, (goF l).2.2) ∧ ((goF l).2.2 = 2 ∨ (goF l).2.2 = 3) := by
  cases l with
  | nil => simp [goF]
  | cons c r => rw [goF]; split <;> simp
def flagV (r : Bool × Nat × Nat) : Value := .tuple #[.bool r.1, .int .i64 (r.2.1 : Int), .int .i64 (r.2.2 : Int)]
/-- What a flag that is asked for turns a reader that isn't bad to. -/
def outQ (l : List UInt8) : Bool × List UInt8 × Nat := if (goF l).2.2 = 0 then ((goF l).1, l.drop (goF l).2.1, 0) else (false, [], (goF l).2.2)
end Go.Proofs.YtbejolbknimmmaaDoor
/- A reader reads bytes: take[[]byte], Bytes. -/
namespace Go.Proofs.YtbejolbknimmmaaDoor
open Go Go.RowKit
set_option maxRecDepth 8000
set_option linter.all false

/-- Bytes read as bytes of a limit: these, how many bytes they have with their number, the error. -/
def goB (l : List UInt8) (most : Int) : List UInt8 × Nat × Nat :=
  if (goN l 0 0).2.2 ≠ 0 then ([], 0, (goN l 0 0).2.2) else if most < ((goN l 0 0).1 : Int) then ([], 0, 4) else if l.length < (goN l 0 0).2.1 + (goN l 0 0).1 then ([], 0, 3)
  else ((l.drop (goN l 0 0).2.1).take (goN l 0 0).1, (goN l 0 0).2.1 + (goN l 0 0).1, 0)
theorem goB_bounds (l : List UInt8) (most : Int) : (goB l most).2.2 = 0 → 0 < (goB l most).2.1 ∧ (goB l most).2.1 ≤ l.length := by
  unfold goB
  split
  · simp; omega
  · rename_i h
    have := goN_bounds l 0 0 (by simpa using h)
    split
    · simp
    · split
      · simp
      · simp; omega
theorem goB_err (l : List UInt8) (most : Int) : (goB l most).2.2 ≠ 0 → goB l most = ([], 0, (goB l most).2.2) := by
  unfold goB
  split
  · simp
  · split
    · simp
    · split <;> simp
theorem slice_mid (b o n cap k m : Nat) (h : k + m ≤ cap) (w : World) : (Instr.slice 33 (.slice (some ⟨b, o, none⟩) n cap) (some (.int .i64 (k : Int))) (some (.int .i64 ((k : Int) + (m : Int)))) none).run Tryd.prog w = .ok (.slice (some (if cap = k then ⟨b, o, none⟩ else (⟨b, o, none⟩ : Addr).add k)) m (cap - k)) w := by
  have hsz : (sizeOf 5).run Tryd.prog w = .ok 1 w := by
    obtain ⟨i0, hi, _, hz1, _⟩ := info_parts info5
    simp [sizeOf, typeInfo, hi, hz1]
  have h3 : (0 : Int) ≤ (k : Int) + (m : Int) ∧ (k : Int) + (m : Int) ≤ (cap : Int) := by omega
  have h4 : k ≤ ((k : Int) + (m : Int)).toNat := by omega
  have h6 : ((k : Int) + (m : Int)).toNat - k = m := by omega
  by_cases h5 : cap = k
  · simp [Instr.slice, run_underlying Tryd.underlying33, Instr.sliceBounds, Instr.sliceBound, asIntOf, hsz, h3, h4, h5, h6, Addr.add_zero']
    omega
  · simp [Instr.slice, run_underlying Tryd.underlying33, Instr.sliceBounds, Instr.sliceBound, asIntOf, hsz, h3, h4, h5, h6]
/-- The m bytes behind the first k. -/
theorem rd_mid {w : World} {L : List Nat} {b o n cap k m : Nat} {l : List UInt8} (h : RdV w L (.slice (some ⟨b, o, none⟩) n cap) l) (hk : k + m ≤ n) :
    RdV w L (.slice (some (if cap = k then ⟨b, o, none⟩ else (⟨b, o, none⟩ : Addr).add k)) m (cap - k)) ((l.drop k).take m) := by
  obtain ⟨A, c, hv, h1, h2, h3⟩ := h
  cases hv
  have hlen : ((l.drop k).take m).length = m := by simp; omega
  refine ⟨some (if cap = k then ⟨b, o, none⟩ else (⟨b, o, none⟩ : Addr).add k), cap - k, by rw [hlen], by rw [hlen]; omega, by omega, fun h0 => ?_⟩
  rw [hlen] at h0
  obtain ⟨b', o', hA, hb, hc⟩ := h3 (by omega)
  cases hA
  refine ⟨b, o + k, by rw [if_neg (by omega), Addr.add_mid], hb, fun i hi => ?_⟩
  rw [hlen] at hi
  rw [Nat.add_assoc, hc (k + i) (by omega)]
  simp [bAt, List.getElem?_take, hi]
set_option maxHeartbeats 2000000 in
theorem bytes1_any (v : Value) (l : List UInt8) (L : List Nat) (g : Nat) (most : Int) (w : World) (h : RdV w L v l) (hl : l.length ≤ 1000000) (hm : w.cell? ⟨g, 0, none⟩ = some (.int .i64 most)) :
    Calls Tryd.prog 65 #[v, .pointer (some ⟨g, 0, none⟩)] w fun ev w' => ∃ u, ev = .returned (.tuple #[u, .int .i64 ((goB l most).2.1 : Int), .int .i64 ((goB l most).2.2 : Int)]) ∧ NewT w w' ∧ (svRdN w (goB l most).1).pred u w' := by
  have H := Lib.hid h
  obtain ⟨A, cap, rfl, h1, h2, h3⟩ := h
  unfold maxLen at h2
  obtain ⟨gg, hg⟩ : ∃ g, goN l 0 0 = g := ⟨_, rfl⟩
  have hb := goN_bounds l 0 0
  have her := goN_err l 0 0
  unfold goB
  rw [hg] at hb her ⊢
  obtain ⟨n, k, er⟩ := gg
  simp only at hb her ⊢
  have Hb := Lib.hid hb
  have Her := Lib.hid her
  have Hg := Lib.hid hg
  have Hm := Lib.hid hm
  clear hb her hg hm
  have hgl : g < w.heap.size := World.block_lt_of_cell? _ _ Hm.out
  by_cases he : er = 0
  · subst he
    obtain ⟨hn, hk0, hkl⟩ := Hb.out rfl
    rw [if_neg (by simp)]
    clear Hb Her
    obtain ⟨b, o, rfl, _, _⟩ := h3 (by omega)
    clear h3
    by_cases hmo : most < (n : Int)
    · rw [if_pos hmo]
      go_enter Tryd.func65, Tryd.ntmps65
      go_wp2_with (go_at_call 66; refine (number_cv _ l L w H.out hl).eq.mono ?_; rintro _ w2 ⟨rfl, hB2⟩; rw [Hg.out]; simp only [numV]; have cm := (hB2.cell (p := ⟨g, 0, none⟩) hgl).trans Hm.out)
      go_ret3
      exact ⟨_, rfl, hB2, fun _ _ => rdV_nil _ _⟩
    rw [if_neg hmo]
    by_cases hsh : l.length < k + n
    · rw [if_pos hsh]
      have hd : ((l.length : Int) - (k : Int)) < (n : Int) := by omega
      go_enter Tryd.func65, Tryd.ntmps65
      go_wp2_with (go_at_call 66; refine (number_cv _ l L w H.out hl).eq.mono ?_; rintro _ w2 ⟨rfl, hB2⟩; rw [Hg.out]; simp only [numV]; have cm := (hB2.cell (p := ⟨g, 0, none⟩) hgl).trans Hm.out)
      go_ret3
      exact ⟨_, rfl, hB2, fun _ _ => rdV_nil _ _⟩
    · rw [if_neg hsh]
      have hd : ¬ ((l.length : Int) - (k : Int)) < (n : Int) := by omega
      have hsl := slice_mid b o l.length cap k n (by omega)
      have hfr := rd_mid (k := k) (m := n) H.out (by omega)
      have hfl : ((l.drop k).take n).length ≤ 1000000 := by simp; omega
      obtain ⟨ad, had⟩ : ∃ ad, (if cap = k then (⟨b, o, none⟩ : Addr) else (⟨b, o, none⟩ : Addr).add k) = ad := ⟨_, rfl⟩
      rw [had] at hsl hfr
      generalize (l.drop k).take n = t at hfr hfl ⊢
      clear had
      have Hfr := Lib.hid hfr
      clear hfr
      go_enter Tryd.func65, Tryd.ntmps65
      go_wp2_with (first
        | (go_at_call 66; refine (number_cv _ l L w H.out hl).eq.mono ?_; rintro _ w2 ⟨rfl, hB2⟩; rw [Hg.out]; simp only [numV]; have cm := (hB2.cell (p := ⟨g, 0, none⟩) hgl).trans Hm.out)
        | (go_at_call 41; refine Calls.mono (Clone_cv _ t L w2 (NewT.rd hB2 Hfr.out) hfl) ?_; rintro _ w3 ⟨u, rfl, hN3, hu⟩))
      go_ret3
      refine ⟨u, rfl, NewT.trans _ _ _ hB2 hN3, fun L hL => hu L fun k hk => ?_⟩
      have := hL k hk
      have := hB2.size
      omega
  · rw [if_pos he]
    obtain ⟨hz, h23⟩ := Her.out he
    simp only [Prod.mk.injEq] at hz
    obtain ⟨rfl, rfl, _⟩ := hz
    have hbe : ((er : Int) != 0) = true := by simp; omega
    clear Hb Her he h3
    go_enter Tryd.func65, Tryd.ntmps65
    go_wp2_with (go_at_call 66; refine (number_cv _ l L w H.out hl).eq.mono ?_; rintro _ w2 ⟨rfl, hB2⟩; rw [Hg.out]; simp only [numV])
    go_ret3
    exact ⟨_, rfl, hB2, fun _ _ => rdV_nil _ _⟩
theorem svRdN_step {W w w' : World} {R : Nat} {u : Value} {t : List UInt8} (h : (svRdN W t).pred u w) (hT : RT R w w') (hR : R < W.heap.size) : (svRdN W t).pred u w' := fun L hL => by
  have h1 : RdV w (R :: L) u t := h (R :: L) (fun k hk => by rcases List.mem_cons.1 hk with rfl | hk; exact hR; exact hL k hk)
  exact (h1.keep (hT.keep.more fun k hk => by simp at hk; simp [hk])).less fun k hk => by simp [hk]
theorem svRdN_base {W w w' : World} {u : Value} {t : List UInt8} (h : (svRdN W t).pred u w') (hB : w.heap.size ≤ W.heap.size) : (svRdN w t).pred u w' := fun L hL => h L fun k hk => by have := hL k hk; omega
/-- What bytes that are asked for turn a reader that isn't bad to. -/
def outB (l : List UInt8) (most : Int) : List UInt8 × List UInt8 × Nat := if (goB l most).2.2 = 0 then ((goB l most).1, l.drop (goB l most).2.1, 0) else ([], [], (goB l most).2.2)
set_option maxHeartbeats 2000000 in
theorem takeB_good (R g : Nat) (most : Int) (l : List UInt8) (w : World) (h : Rdr w R l 0) (hm : w.cell? ⟨g, 0, none⟩ = some (.int .i64 most)) (hl : l.length ≤ 1000000) :
    Calls Tryd.prog 64 #[.pointer (some ⟨R, 0, none⟩), .func (.func 65) #[] #[.pointer (some ⟨g, 0, none⟩)]] w fun ev w' => ∃ u, ev = .returned u ∧ (svRdN w (outB l most).1).pred u w' ∧ RT R w w' ∧ Rdr w' R (outB l most).2.1 ((outB l most).2.2 : Int) := by
  have H := Lib.hid h
  have hR := h.lt
  have hgl : g < w.heap.size := World.block_lt_of_cell? _ _ hm
  have Hm := Lib.hid hm
  clear h hm
  obtain ⟨gg, hg⟩ : ∃ g, goB l most = g := ⟨_, rfl⟩
  have hb := goB_bounds l most
  have her := goB_err l most
  unfold outB
  rw [hg] at hb her ⊢
  obtain ⟨n, k, er⟩ := gg
  simp only at hb her ⊢
  have Hb := Lib.hid hb
  have Her := Lib.hid her
  have Hg := Lib.hid hg
  clear hb her hg
  by_cases he : er = 0
  · subst he
    obtain ⟨hk0, hkl⟩ := Hb.out rfl
    rw [if_pos rfl]
    clear Hb Her
    obtain ⟨v, r1, rs, _⟩ := H.out
    have r2 := rs.rd
    obtain ⟨A, cap, rfl, hc1, hc2, hA⟩ := id r2
    obtain ⟨b, o, rfl, _, _⟩ := hA (by omega)
    clear hA
    have hsl := slice_from (P := Tryd.prog) 33 5 Tryd.underlying33 info5s ⟨b, o, none⟩ l.length cap k (by omega)
    have hfr : Rest w R _ _ := fun L hL => rd_from (k := k) (rs L hL) (by omega)
    obtain ⟨ad, had⟩ : ∃ ad, (if cap = k then (⟨b, o, none⟩ : Addr) else (⟨b, o, none⟩ : Addr).add k) = ad := ⟨_, rfl⟩
    rw [had] at hsl hfr
    clear had
    go_enter Tryd.func64, Tryd.ntmps64
    go_wp2_with (first
      | (go_at_call 74; refine (Bad_any R l 0 w H.out).eq.mono ?_; rintro _ w1 ⟨rfl, hB1⟩; have r1' := NewT.row hB1 r1; have r2' := NewT.rd hB1 r2; have c0 := r1'.cell (i := 0) (by omega); simp only [if_true] at c0)
      | (go_at_call 65; refine (bytes1_any _ l [R] g most w1 r2' hl ((hB1.cell (p := ⟨g, 0, none⟩) hgl).trans Hm.out)).mono ?_; rintro _ w2 ⟨u, rfl, hB2, hu⟩; rw [Hg.out] at hu ⊢; simp only at hu ⊢; have r3 := NewT.row hB2 r1'; have c2 := r3.cell (i := 0) (by omega); have f2 := r3.frozen 0; simp only [if_true] at c2))
    go_ret
    have hN := NewT.trans _ _ _ hB1 hB2
    exact ⟨_, rfl, svRdN_step (R := R) (svRdN_base hu hB1.size) (RT.setCell _ 0 _) hR, RT.trans _ _ _ (RT.new hR hN) (RT.setCell _ 0 _), Rdr.put r3 rfl (hfr.new hN) rfl rfl⟩
  · rw [if_neg he]
    have hz := Her.out he
    simp only [Prod.mk.injEq] at hz
    obtain ⟨rfl, rfl, _⟩ := hz
    obtain ⟨v, r1, rs, _⟩ := H.out
    have r2 := rs.rd
    have hbe : ((er : Int) != 0) = true := by simp; omega
    have hne : (er : Int) ≠ 0 := by omega
    have Hne := Lib.hid hne
    clear Hb Her he hne
    go_enter Tryd.func64, Tryd.ntmps64
    go_wp2_with (first
      | (go_at_call 74; refine (Bad_any R l 0 w H.out).eq.mono ?_; rintro _ w1 ⟨rfl, hB1⟩; have r1' := NewT.row hB1 r1; have r2' := NewT.rd hB1 r2; have c0 := r1'.cell (i := 0) (by omega); simp only [if_true] at c0)
      | (go_at_call 65; refine (bytes1_any _ l [R] g most w1 r2' hl ((hB1.cell (p := ⟨g, 0, none⟩) hgl).trans Hm.out)).mono ?_; rintro _ w2 ⟨u, rfl, hB2, hu⟩; rw [Hg.out] at hu ⊢; simp only at hu ⊢)
      | (go_at_call 75; refine (Fail_good R l er Hne.out w2 (H.out.new (NewT.trans _ _ _ hB1 hB2))).mono ?_; rintro _ w3 ⟨rfl, hT3, hR3⟩))
    go_ret
    exact ⟨_, rfl, fun _ _ => rdV_nil _ _, RT.trans _ _ _ (RT.new hR (NewT.trans _ _ _ hB1 hB2)) hT3, hR3⟩
set_option maxHeartbeats 1000000 in
theorem takeB_bad (R g : Nat) (l : List UInt8) (e : Int) (he : e ≠ 0) (w : World) (h : Rdr w R l e) :
    Calls Tryd.prog 64 #[.pointer (some ⟨R, 0, none⟩), .func (.func 65) #[] #[.pointer (some ⟨g, 0, none⟩)]] w fun ev w' => ev = .returned (.slice none 0 0) ∧ RT R w w' ∧ Rdr w' R l e := by
  have H := Lib.hid h
  have hR := h.lt
  have hd : (e != 0) = true := by simpa using he
  clear h he
  go_enter Tryd.func64, Tryd.ntmps64
  go_wp2_with (go_at_call 74; refine (Bad_any R l e w H.out).eq.mono ?_; rintro _ w1 ⟨rfl, hB1⟩)
  go_ret
  exact ⟨rfl, RT.new hR hB1, H.out.new hB1⟩
set_option maxHeartbeats 400000 in
theorem RBytes_good (R : Nat) (most : Int) (l : List UInt8) (w : World) (h : Rdr w R l 0) (hl : l.length ≤ 1000000) :
    Calls Tryd.prog 55 #[.pointer (some ⟨R, 0, none⟩), .int .i64 most] w fun ev w' => ∃ u, ev = .returned u ∧ (svRdN w (outB l most).1).pred u w' ∧ RT R w w' ∧ Rdr w' R (outB l most).2.1 ((outB l most).2.2 : Int) := by
  have H := Lib.hid h
  have hR := h.lt
  clear h
  have r0 := rowIs_box w 3 1 (fun _ => .int .i64 most)
  have hN : NewT w (w.alloc (.cells #[.int .i64 most] 3)) := NewT.alloc _ _
  go_enter Tryd.func55, Tryd.ntmps55
  go_wp2_with (go_at_call 64; refine (takeB_good R w.heap.size most l _ (H.out.new hN) (r0.cell (i := 0) (by omega)) hl).mono ?_; rintro _ w1 ⟨u, rfl, hu, hT, hr⟩)
  go_ret
  exact ⟨_, rfl, svRdN_base hu hN.out.size, RT.trans _ _ _ (RT.new hR hN) hT, hr⟩
set_option maxHeartbeats 400000 in
theorem RBytes_bad (R : Nat) (most : Int) (l : List UInt8) (e : Int) (he : e ≠ 0) (w : World) (h : Rdr w R l e) :
    Calls Tryd.prog 55 #[.pointer (some ⟨R, 0, none⟩), .int .i64 most] w fun ev w' => ev = .returned (.slice none 0 0) ∧ RT R w w' ∧ Rdr w' R l e := by
  have H := Lib.hid h
  have He := Lib.hid he
  have hR := h.lt
  clear h he
  have hN : NewT w (w.alloc (.cells #[.int .i64 most] 3)) := NewT.alloc _ _
  go_enter Tryd.func55, Tryd.ntmps55
  go_wp2_with (go_at_call 64; refine (takeB_bad R w.heap.size l e He.out _ (H.out.new hN)).mono ?_; rintro _ w1 ⟨rfl, hT, hr⟩)
  go_ret
  exact ⟨rfl, RT.trans _ _ _ (RT.new hR hN) hT, hr⟩
end Go.Proofs.YtbejolbknimmmaaDoor
/- A reader reads a hash: take[api.Hash], Hash. -/
namespace Go.Proofs.YtbejolbknimmmaaDoor
open Go Go.RowKit
set_option maxRecDepth 8000
set_option linter.all false

/-- Bytes read as a hash: it, how many bytes it has, the error. -/
def goH (l : List UInt8) : (Nat → UInt8) × Nat × Nat := if l.length < 32 then (fun _ => 0, 0, 3) else (bAt l, 32, 0)
theorem results_row3 {P : Program} {w : World} {b : Nat} {t : TypeId} {n : Nat} {f : Nat → Value} {e : TypeId} {m : Nat} {fn : Func} {p u v : Tmp} {ty : TypeId} (hf : fn.results = #[.cell p ty, .tmp u, .tmp v]) (tmps : Array Value) (hp : tmps.getD p undef = .pointer (some ⟨b, 0, none⟩))
    (h : w.rowIs b t n f) (hu : P.underlying ty = some (.array m e)) (hi : (P.info? ty).map (·.size) = some n) : (results fn tmps).run P w = .ok (.tuple #[.agg (rowA n f), tmps.getD u undef, tmps.getD v undef]) w := by
  have := load_row (P := P) h hu hi
  have hp' : tmps[p]?.getD undef = .pointer (some ⟨b, 0, none⟩) := by simpa using hp
  simp [results, hf, hp', asAddr, this]
theorem rdV_none {W W' : World} {L L' : List Nat} {v : Value} (h : RdV W L v []) : RdV W' L' v [] := by
  obtain ⟨A, c, hv, h1, h2, _⟩ := h
  exact ⟨A, c, hv, h1, h2, fun h => absurd h (by simp)⟩
/-- A whole array is stored into a row. -/
theorem wpList_store_row {P : Program} {ops : Array Oper} {rest : List Oper} {op : Oper} {a : Act} {w : World} {Q : Exit → Act → World → Prop} (hgd : op.guard = none) (ty : TypeId) (x y : Operand) (ho : op.op = .store ty x y)
    (g n : Nat) (D : Nat → UInt8) (hx : a.eval x = .pointer (some ⟨g, 0, none⟩)) (hy : a.eval y = .agg (rowA n (bF D))) {t' : TypeId} {f0 : Nat → Value} (hr : w.rowIs g t' n f0) (hi : (P.info? ty).map (·.size) = some n)
    (h : ∀ w', KeepBut [g] w w' → (∀ B, B ≤ g → Below B w w') → w'.rowIs g t' n (bF D) → wpList P ops Q rest (a.put op.dst undef) w') : wpList P ops Q (op :: rest) a w :=
  wpList_store_mid hgd ty x y ho g 0 (rowA n (bF D)) hx hy (by rw [rowA_size]; exact there_row hr) (by rw [rowA_size]; exact hi) (rowA_one _ _ fun _ => rfl)
    (h _ (KeepBut.setCells (by simp) _ _ _) (fun B hB => below_setCells g hB _ _ _ (Below.refl _ _)) (rowIs_setAll hr (bF D)))
/-- What a hash that is asked for turns a reader that isn't bad to. -/
def outH (l : List UInt8) : (Nat → UInt8) × List UInt8 × Nat := if l.length < 32 then (fun _ => 0, [], 3) else (bAt l, l.drop 32, 0)
/-- Blocks that came behind W are written, and R: to whoever looks from W on, a step that writes R alone. -/
theorem RT.late {R g : Nat} {W w w' : World} (h : RT R W w) (hg : W.heap.size ≤ g) (hR : R < W.heap.size) (hK : KeepBut [g] w w') (hB : ∀ B, B ≤ g → Below B w w') : RT R W w' :=
  ⟨h.below.trans (hB R (by omega)), Nat.le_trans h.keep.1 hK.1, fun k o hk ho hc => hK.2 k o (by have := (Array.getElem?_eq_some_iff.1 ho).1; simp; omega) (h.keep.2 k o hk ho hc) hc⟩
end Go.Proofs.YtbejolbknimmmaaDoor
/- Layer 3, words that later layers share: bytes as strings; slices of slices; what is read of what was put; a reader in a region. -/
namespace Go.Proofs.YtbejolbknimmmaaDoor
open Go Go.RowKit
set_option maxRecDepth 8000
set_option linter.all false
theorem rdV_form' {W : World} {L : List Nat} {v : Value} {l : List UInt8} (h : RdV W L v l) : ∃ A n cap, v = .slice A n cap ∧ Hid (l.length = n) := by
  obtain ⟨A, cap, hv, _⟩ := h; exact ⟨A, l.length, cap, hv, Lib.hid rfl⟩
/-- A slice of bytes becomes a string. -/
theorem conv_rd {w : World} {L : List Nat} {v : Value} {l : List UInt8} (h : RdV w L v l) : (convert 33 9 v).run Tryd.prog w = .ok (.string ⟨l.toArray⟩) w := by
  obtain ⟨A, cap, rfl, h1, h2, h3⟩ := h
  by_cases h0 : 0 < l.length
  · obtain ⟨b, o, rfl, _, hc⟩ := h3 h0
    have := run_convert_bytes_arg (P := Tryd.prog) w 33 5 Tryd.underlying33 Tryd.underlying5 b o l.length cap (l.map bN) (by simp) (fun i hi => by
      rw [hc i hi]
      simp [bAt, hi]) 9 Tryd.underlying9
    rw [this]
    have e : strOfNums (l.map bN) = ⟨l.toArray⟩ := by
      unfold strOfNums
      congr 2
      rw [List.map_map]
      conv => rhs; rw [← List.map_id l]
      exact List.map_congr_left fun b _ => by simp [bN]
    rw [e]
  · have : l = [] := List.eq_nil_of_length_eq_zero (by omega)
    subst this
    simp only [List.length_nil]
    simp [convert, run_underlying Tryd.underlying33, run_underlying Tryd.underlying9, run_underlying Tryd.underlying5, Conv.bytesToString]
    cases A <;> simp [go_sem] <;> rfl
theorem parts4 {W : World} {v1 v2 v3 v4 : Value} {l1 l2 l3 l4 : List UInt8} (h1 : RdV W [] v1 l1) (h2 : RdV W [] v2 l2) (h3 : RdV W [] v3 l3) (h4 : RdV W [] v4 l4) : Parts (W.alloc (.cells #[v1, v2, v3, v4] 33)) (.slice (some ⟨W.heap.size, 0, none⟩) 4 4) [l1, l2, l3, l4] :=
  ⟨[(v1, l1), (v2, l2), (v3, l3), (v4, l4)], parts_new [(v1, l1), (v2, l2), (v3, l3), (v4, l4)] 33 (by simp) (by simp) (by simp; exact ⟨h1, h2, h3, h4⟩), rfl⟩
theorem parts5 {W : World} {v1 v2 v3 v4 v5 : Value} {l1 l2 l3 l4 l5 : List UInt8} (h1 : RdV W [] v1 l1) (h2 : RdV W [] v2 l2) (h3 : RdV W [] v3 l3) (h4 : RdV W [] v4 l4) (h5 : RdV W [] v5 l5) : Parts (W.alloc (.cells #[v1, v2, v3, v4, v5] 33)) (.slice (some ⟨W.heap.size, 0, none⟩) 5 5) [l1, l2, l3, l4, l5] :=
  ⟨[(v1, l1), (v2, l2), (v3, l3), (v4, l4), (v5, l5)], parts_new [(v1, l1), (v2, l2), (v3, l3), (v4, l4), (v5, l5)] 33 (by simp) (by simp) (by simp; exact ⟨h1, h2, h3, h4, h5⟩), rfl⟩
/-- The first m bytes. -/
theorem rd_to {w : World} {L : List Nat} {A : Option Addr} {n cap m : Nat} {l : List UInt8} (h : RdV w L (.slice A n cap) l) (hm : m ≤ n) : RdV w L (.slice A m cap) (l.take m) := by
  obtain ⟨A', c, hv, h1, h2, h3⟩ := h
  cases hv
  have hlen : (l.take m).length = m := by simp; omega
  refine ⟨A, cap, by rw [hlen], by rw [hlen]; omega, h2, fun h0 => ?_⟩
  rw [hlen] at h0
  obtain ⟨b, o, hA, hb, hc⟩ := h3 (by omega)
  refine ⟨b, o, hA, hb, fun i hi => ?_⟩
  rw [hlen] at hi
  rw [hc i (by omega)]
  simp [bAt, hi]
theorem opr_slice_upto {a : Act} {w : World} {o : Oper} {K : Act → World → Prop} {Q : Exit → Act → World → Prop} {x y : Operand} {A : Option Addr} {n cap m : Nat} (ho : o.op = .slice 33 x none (some y) none) (hx : a.eval x = .slice A n cap) (hy : a.eval y = .int .i64 (m : Int)) (hm : m ≤ cap) (h : K (a.put o.dst (.slice A m cap)) w) : o.wp Tryd.prog a w K Q := by
  obtain ⟨dst, op, type, pos, after, guard⟩ := o
  simp only at ho
  subst ho
  refine opr_val (s := Instr.sliceAt 33 (a.eval x) none (some (a.eval y)) none) rfl ?_ h
  rw [hx, hy]
  have := slice_to A n cap m hm w
  simpa [Instr.sliceAt, run_underlying Tryd.underlying33] using this
theorem ownsRow_newT {w w' : World} {base : Nat} {e : TypeId} {v : Value} {n : Nat} {xs : List Value} (h : w.ownsRow base e 1 v n xs) (hN : NewT w w') : w'.ownsRow base e 1 v n xs := by
  obtain ⟨h1, h2⟩ := h
  refine ⟨h1, ?_⟩
  rcases h2 with h | ⟨g, cap, cur, hv, hb, hh, r⟩
  · exact .inl h
  · exact .inr ⟨g, cap, cur, hv, hb, (hN.out.block g (Array.getElem?_eq_some_iff.1 hh).1).trans hh, r⟩
theorem outN_put (x : Nat) (hx : x ≤ 2147483647) (r : List UInt8) : outN (numL x ++ r) = (x, r, 0) := by
  unfold outN
  rw [goN_put x hx r]
  simp only [if_true]
  rw [← numL_length x]; simp
/-- A new reader of l. -/
def svRdr (W : World) (l : List UInt8) : SV NewT := ⟨fun v w => ∃ R, v = .pointer (some ⟨R, 0, none⟩) ∧ W.heap.size ≤ R ∧ Rdr w R l 0, fun _ _ _ ⟨R, h1, h2, h3⟩ hT => ⟨R, h1, h2, h3.new hT⟩⟩
/-- It reads as l, whatever a reader R does. -/
def svRdR (R : Nat) (l : List UInt8) : SV (RT R) := ⟨fun v w => RdV w [R] v l, fun _ _ _ h hT => hT.rd h⟩
theorem All_rd (pv : Value) (ls : List (List UInt8)) (l : List UInt8) (w : World) (hp : Parts w pv ls) (hl : ls.flatten = l) (ht : l.length ≤ 1000000) : Cv 49 #[pv] w (svRd l) :=
  Calls.mono (All_cv pv ls l w hp hl ht) fun _ _ ⟨v, he, hN, hv⟩ => ⟨v, he, hN, hv [] (by simp)⟩
theorem Read_cv (v : Value) (l : List UInt8) (w W : World) (h : RdV w [] v l) (hl : l.length ≤ 1000000) (hW : W.heap.size ≤ w.heap.size) : Cv 54 #[v] w (svRdr W l) :=
  Calls.mono (Read_any v l w h hl) fun _ _ ⟨R, he, hN, hR, hr⟩ => ⟨_, he, hN, R, rfl, Nat.le_trans hW hR, hr⟩
theorem run_bs5 (v1 v2 v3 v4 v5 : Value) (h1 : ∃ A n c, v1 = .slice A n c) (h2 : ∃ A n c, v2 = .slice A n c) (h3 : ∃ A n c, v3 = .slice A n c) (h4 : ∃ A n c, v4 = .slice A n c) (h5 : ∃ A n c, v5 = .slice A n c) (w : World) : (Instr.buildSlice 26 5 #[(0, v1), (1, v2), (2, v3), (3, v4), (4, v5)]).run Tryd.prog w = .ok (.slice (some ⟨w.heap.size, 0, none⟩) 5 5) (w.alloc (.cells #[v1, v2, v3, v4, v5] 33)) := by
  obtain ⟨_, _, _, rfl⟩ := h1
  obtain ⟨_, _, _, rfl⟩ := h2
  obtain ⟨_, _, _, rfl⟩ := h3
  obtain ⟨_, _, _, rfl⟩ := h4
  obtain ⟨_, _, _, rfl⟩ := h5
  simp [go_sem]
theorem rd_is {w : World} {L : List Nat} {v : Value} {l : List UInt8} (h : RdV w L v l) : ∃ A n c, v = .slice A n c := by obtain ⟨A, c, hv, _⟩ := h; exact ⟨A, _, c, hv⟩
theorem opr_bs5 {a : Act} {w : World} {o : Oper} {K : Act → World → Prop} {Q : Exit → Act → World → Prop} {x1 x2 x3 x4 x5 : Operand} {l1 l2 l3 l4 l5 : List UInt8} (ho : o.op = .buildSlice 26 5 #[(0, x1), (1, x2), (2, x3), (3, x4), (4, x5)]) (h1 : RdV w [] (a.eval x1) l1) (h2 : RdV w [] (a.eval x2) l2) (h3 : RdV w [] (a.eval x3) l3) (h4 : RdV w [] (a.eval x4) l4) (h5 : RdV w [] (a.eval x5) l5) (h : ∀ v w', NewT w w' → Parts w' v [l1, l2, l3, l4, l5] → K (a.put o.dst v) w') : o.wp Tryd.prog a w K Q := by
  obtain ⟨dst, op, type, pos, after, guard⟩ := o
  simp only at ho
  subst ho
  exact opr_val (s := Instr.buildSlice 26 5 #[(0, a.eval x1), (1, a.eval x2), (2, a.eval x3), (3, a.eval x4), (4, a.eval x5)]) (by simp [execOp]) (run_bs5 _ _ _ _ _ (rd_is h1) (rd_is h2) (rd_is h3) (rd_is h4) (rd_is h5) w) (h _ _ (NewT.alloc _ _) (parts5 h1 h2 h3 h4 h5))
theorem opr_eql_bool {a : Act} {w : World} {o : Oper} {K : Act → World → Prop} {Q : Exit → Act → World → Prop} {x y : Operand} {t' : TypeId} {q : Bool} (ho : o.op = .binOp .eql 4 x y t') (hx : a.eval x = .bool q) (hy : a.eval y = .bool q) (h : K (a.put o.dst (.bool true)) w) : o.wp Tryd.prog a w K Q := by
  obtain ⟨dst, op, type, pos, after, guard⟩ := o
  simp only at ho
  subst ho
  refine opr_val (s := do eqGuard .eql 4 x y (a.eval x) (a.eval y); binOp .eql 4 (a.eval x) (a.eval y)) rfl ?_ h
  rw [hx, hy]
  cases q <;> simp [go_sem]
theorem outQ_put (q : Bool) (r : List UInt8) : outQ (cond q 1 0 :: r) = (q, r, 0) := by cases q <;> rfl
theorem outB_put (l r : List UInt8) (hl : l.length ≤ 1000000) : outB (numL l.length ++ l ++ r) (l.length : Int) = (l, r, 0) := by
  have hg := goN_put l.length (by omega) (l ++ r)
  rw [← List.append_assoc] at hg
  have hd : (numL l.length ++ l ++ r).drop (sz l.length) = l ++ r := by
    rw [List.append_assoc, ← numL_length l.length]; simp
  have hB : goB (numL l.length ++ l ++ r) (l.length : Int) = (l, sz l.length + l.length, 0) := by
    unfold goB
    rw [hg]
    simp only
    rw [if_neg (by simp), if_neg (by omega), if_neg (by simp [numL_length]), hd]
    simp
  unfold outB
  rw [hB]
  simp only [if_true]
  rw [← List.drop_drop, hd]
  simp
theorem outH_put (d : Nat → UInt8) (r : List UInt8) : (outH (digL d ++ r)).2 = (r, 0) ∧ rowA 32 (bF (outH (digL d ++ r)).1) = rowA 32 (bF d) := by
  have hl : ¬ (digL d ++ r).length < 32 := by simp [digL_length]
  unfold outH
  rw [if_neg hl]
  refine ⟨?_, rowA_congr fun i hi => ?_⟩
  · have := digL_length d
    simp [← this]
  · rw [bF_at, bF_at]
    congr 2
    have h1 : i < (digL d).length := by rw [digL_length]; exact hi
    show (digL d ++ r).getD i 0 = d i
    rw [List.getD_eq_getElem?_getD, List.getElem?_append_left h1]
    simp [digL, hi]
/-- The last place of a row of the call's own is written. -/
theorem ownsRow_last {w : World} {base g n cap : Nat} {e : TypeId} {xs : List Value} {u : Value} (h : w.ownsRow base e 1 (.slice (some ⟨g, 0, none⟩) (n + 1) cap) (n + 1) (xs ++ [u])) (u' : Value) :
    (w.setCell ⟨g, n, none⟩ u').ownsRow base e 1 (.slice (some ⟨g, 0, none⟩) (n + 1) cap) (n + 1) (xs ++ [u']) := by
  obtain ⟨h1, h2⟩ := h
  have hx : xs.length = n := by simpa using h1
  rcases h2 with ⟨h, _⟩ | ⟨g', cap', cur, hv, hb, hh, hnc, hm, hs, ht⟩
  · cases h
  · cases hv
    refine ⟨by simpa using hx, .inr ⟨g, cap, cur.setIfInBounds n u', rfl, hb, by simp [World.setCell, Array.getElem?_modify, hh], hnc, hm, by simpa using hs, ?_⟩⟩
    have e1 : cur.toList.take n = xs := by
      have := congrArg (List.take n) ht
      rw [List.take_take, Nat.min_eq_left (by omega)] at this
      rw [this, List.take_append_of_le_length (by omega)]
      exact List.take_of_length_le (by omega)
    have hlt : n < cur.toList.length := by simp; omega
    rw [Nat.mul_one, Array.toList_setIfInBounds, List.take_add_one, List.take_set_of_le (Nat.le_refl _), e1]
    simp [show n < cur.size by omega]
theorem frozen_own {w : World} {base g n cap : Nat} {e : TypeId} {xs : List Value} (h : w.ownsRow base e 1 (.slice (some ⟨g, 0, none⟩) n cap) n xs) (i : Nat) : w.frozen? ⟨g, i, none⟩ = false := by
  obtain ⟨_, h2⟩ := h
  rcases h2 with ⟨h, _⟩ | ⟨g', cap', cur, hv, _, hh, _⟩
  · cases h
  · cases hv; simp [World.frozen?, hh]
theorem bN_uB (n : Nat) (h : n < 256) : bN (uB n) = (n : Int) := by rw [bN, toNat_uB]; omega
theorem Num_rd (n : Int) (l : List UInt8) (w : World) (h : numI n = l) : Cv 53 #[.int .i64 n] w (svRd l) :=
  Calls.mono (Num_cv n w) fun _ _ ⟨v, he, hN, hv⟩ => ⟨v, he, hN, by rw [h] at hv; exact hv [] (by simp)⟩
theorem WBytes_rd (v : Value) (l z : List UInt8) (w : World) (h : RdV w [] v l) (hl : l.length ≤ 900000) (hz : numL l.length ++ l = z) : Cv 50 #[v] w (svRd z) :=
  Calls.mono (WBytes_cv v l w h hl) fun _ _ ⟨v, he, hN, hv⟩ => ⟨v, he, hN, by rw [hz] at hv; exact hv [] (by simp)⟩
end Go.Proofs.YtbejolbknimmmaaDoor
/- What a region that makes new memory alone leaves of the tables. -/
namespace Go.Proofs.YtbejolbknimmmaaDoor
open Go Go.RowKit
set_option maxRecDepth 8000
set_option linter.all false
theorem NewT.tables {w w' : World} (h : NewT w w') (hT : Tables w) : Tables w' := hT.below h
end Go.Proofs.YtbejolbknimmmaaDoor
/- The contract of Sum. -/
namespace Go.Proofs.YtbejolbknimmmaaDoor
open Go Go.RowKit
set_option maxRecDepth 8000
set_option linter.all false
/-- The digest of parts. -/
theorem Sum_cv (pv : Value) (ls : List (List UInt8)) (D : Nat → UInt8) (w : World) (hT : Tables w) (hp : Parts w pv ls) (ht : ls.flatten.length ≤ 4611686018427387904) (hD : shaL Kc Fc ls.flatten = D) : Cv 58 #[pv] w (.eq (.agg (rowA 32 (bF D)))) := by
  obtain ⟨ps, hp, rfl⟩ := hp
  have e : (ps.map (·.2)).flatten = flat ps := rfl
  rw [e] at ht hD
  rw [← hD]
  exact Cv.of_eq (Sum_c pv ps w hT hp (by rw [← flat_length]; exact ht))
end Go.Proofs.YtbejolbknimmmaaDoor
/- Numbers of 64 bits that hold numbers of 32, as the reference computes; and the reference's turns and shifts. -/
namespace Go.Proofs.YtbejolbknimmmaaDoor
open Go.RowKit
set_option maxRecDepth 8000
set_option linter.all false

theorem wrap_u64 (n : Int) : IntKind.u64.wrap n = n % 18446744073709551616 := by simp [IntKind.wrap, IntKind.bits, IntKind.signed]
theorem wrap64_uN (x : BitVec 32) : IntKind.u64.wrap (uN x) = uN x := by rw [wrap_u64]; have := uN_lt x; omega
theorem wrap64_bN (x : UInt8) : IntKind.u64.wrap (bN x) = bN x := by rw [wrap_u64]; have := bN_lt x; omega
theorem or64 (a b : Nat) (ha : a < 2 ^ 64) (hb : b < 2 ^ 64) : bits .or .u64 (a : Int) (b : Int) = ((a ||| b : Nat) : Int) := by
  show IntKind.u64.wrap (((BitVec.ofInt 64 (a : Int) ||| BitVec.ofInt 64 (b : Int)).toNat : Nat) : Int) = _
  rw [BitVec.ofInt_natCast, BitVec.ofInt_natCast, BitVec.toNat_or, BitVec.toNat_ofNat, BitVec.toNat_ofNat, Nat.mod_eq_of_lt ha, Nat.mod_eq_of_lt hb, wrap_u64]
  have := Nat.or_lt_two_pow ha hb
  omega
theorem xor64 (a b : Nat) (ha : a < 2 ^ 64) (hb : b < 2 ^ 64) : bits .xor .u64 (a : Int) (b : Int) = ((a ^^^ b : Nat) : Int) := by
  show IntKind.u64.wrap (((BitVec.ofInt 64 (a : Int) ^^^ BitVec.ofInt 64 (b : Int)).toNat : Nat) : Int) = _
  rw [BitVec.ofInt_natCast, BitVec.ofInt_natCast, BitVec.toNat_xor, BitVec.toNat_ofNat, BitVec.toNat_ofNat, Nat.mod_eq_of_lt ha, Nat.mod_eq_of_lt hb, wrap_u64]
  have := Nat.xor_lt_two_pow ha hb
  omega
theorem and64 (a b : Nat) (ha : a < 2 ^ 64) (hb : b < 2 ^ 64) : bits .and .u64 (a : Int) (b : Int) = ((a &&& b : Nat) : Int) := by
  show IntKind.u64.wrap (((BitVec.ofInt 64 (a : Int) &&& BitVec.ofInt 64 (b : Int)).toNat : Nat) : Int) = _
  rw [BitVec.ofInt_natCast, BitVec.ofInt_natCast, BitVec.toNat_and, BitVec.toNat_ofNat, BitVec.toNat_ofNat, Nat.mod_eq_of_lt ha, Nat.mod_eq_of_lt hb, wrap_u64]
  have := Nat.and_lt_two_pow a hb
  omega
theorem lt64 (x : BitVec 32) : x.toNat < 2 ^ 64 := by omega
theorem u64_xor (x y : BitVec 32) : bits .xor .u64 (uN x) (uN y) = uN (x ^^^ y) := by
  unfold uN; rw [xor64 _ _ (lt64 x) (lt64 y), BitVec.toNat_xor]
theorem u64_and (x y : BitVec 32) : bits .and .u64 (uN x) (uN y) = uN (x &&& y) := by
  unfold uN; rw [and64 _ _ (lt64 x) (lt64 y), BitVec.toNat_and]
theorem u64_not (x : BitVec 32) : IntKind.u64.wrap ((4294967295 : Int) - uN x) = uN (~~~x) := by
  rw [wrap_u64]; unfold uN; rw [BitVec.toNat_not]; omega
/-- A sum of numbers of 32 bits, not cut. -/
def tN (l : List (BitVec 32)) : Int := ((l.map BitVec.toNat).sum : Nat)
theorem u64_add2 (a b : BitVec 32) : IntKind.u64.wrap (uN a + uN b) = tN [a, b] := by rw [wrap_u64]; simp [uN, tN]; omega
theorem u64_add3 (a b c : BitVec 32) : IntKind.u64.wrap (tN [a, b] + uN c) = tN [a, b, c] := by rw [wrap_u64]; simp [uN, tN]; omega
theorem u64_add4 (a b c d : BitVec 32) : IntKind.u64.wrap (tN [a, b, c] + uN d) = tN [a, b, c, d] := by rw [wrap_u64]; simp [uN, tN]; omega
theorem u64_add5 (a b c d e : BitVec 32) : IntKind.u64.wrap (tN [a, b, c, d] + uN e) = tN [a, b, c, d, e] := by rw [wrap_u64]; simp [uN, tN]; omega
theorem mod_t2 (a b : BitVec 32) : tN [a, b] % (4294967296 : Int) = uN (a + b) := by simp [uN, tN, BitVec.toNat_add]
theorem mod_t4 (a b c d : BitVec 32) : tN [a, b, c, d] % (4294967296 : Int) = uN (a + b + c + d) := by simp [uN, tN, BitVec.toNat_add]; omega
theorem mod_t5 (a b c d e : BitVec 32) : tN [a, b, c, d, e] % (4294967296 : Int) = uN (a + b + c + d + e) := by simp [uN, tN, BitVec.toNat_add]; omega
theorem u64_rot (x : BitVec 32) (m k : Nat) (hm : m < 32) (hk : k = 32 - m) : bits .or .u64 (uN (x >>> m)) (IntKind.u64.wrap (uN x * 2 ^ k)) % (4294967296 : Int) = uN (x.rotateRight m) := by
  have h1 : IntKind.u64.wrap (uN x * 2 ^ k) = ((x.toNat * 2 ^ k % 2 ^ 64 : Nat) : Int) := by rw [wrap_u64]; unfold uN; simp
  rw [h1]
  unfold uN
  rw [or64 _ _ (lt64 _) (Nat.mod_lt _ (by omega)), BitVec.rotateRight_def, Nat.mod_eq_of_lt hm, BitVec.toNat_or, ← hk]
  have h2 : ((x >>> m).toNat ||| x.toNat * 2 ^ k % 2 ^ 64) % 2 ^ 32 = (x >>> m).toNat ||| (x <<< k).toNat := by
    rw [Nat.or_mod_two_pow, Nat.mod_eq_of_lt (x >>> m).isLt, Nat.mod_mod_of_dvd _ (by decide), BitVec.toNat_shiftLeft, Nat.shiftLeft_eq]
  omega
theorem tN_nonneg (l : List (BitVec 32)) : 0 ≤ tN l := by unfold tN; omega
theorem tmod_t2 (a b : BitVec 32) : (tN [a, b]).tmod (4294967296 : Int) = uN (a + b) := by rw [Int.tmod_eq_emod_of_nonneg (tN_nonneg _), mod_t2]
theorem tmod_t4 (a b c d : BitVec 32) : (tN [a, b, c, d]).tmod (4294967296 : Int) = uN (a + b + c + d) := by rw [Int.tmod_eq_emod_of_nonneg (tN_nonneg _), mod_t4]
theorem tmod_t5 (a b c d e : BitVec 32) : (tN [a, b, c, d, e]).tmod (4294967296 : Int) = uN (a + b + c + d + e) := by rw [Int.tmod_eq_emod_of_nonneg (tN_nonneg _), mod_t5]
theorem u64_rott (x : BitVec 32) (m k : Nat) (hm : m < 32) (hk : k = 32 - m) : (bits .or .u64 (uN (x >>> m)) (IntKind.u64.wrap (uN x * 2 ^ k))).tmod (4294967296 : Int) = uN (x.rotateRight m) := by
  have h1 : IntKind.u64.wrap (uN x * 2 ^ k) = ((x.toNat * 2 ^ k % 2 ^ 64 : Nat) : Int) := by rw [wrap_u64]; unfold uN; simp
  have h0 : 0 ≤ bits .or .u64 (uN (x >>> m)) (IntKind.u64.wrap (uN x * 2 ^ k)) := by
    rw [h1]; unfold uN; rw [or64 _ _ (lt64 _) (Nat.mod_lt _ (by omega))]; omega
  rw [Int.tmod_eq_emod_of_nonneg h0, u64_rot x m k hm hk]
attribute [local go_sem] u32_shr wrap64_uN
set_option maxHeartbeats 400000 in
theorem right_any (x : BitVec 32) (n : Int) (hn : 0 < n) (hn2 : n < 32) (w : World) :
    Calls Tryd.prog 72 #[.int .u64 (uN x), .int .i64 n] w fun e w' => e = .returned (.int .u64 (uN (x.rotateRight n.toNat))) ∧ w = w' := by
  obtain ⟨m, rfl⟩ := Int.eq_ofNat_of_zero_le (Int.le_of_lt hn)
  rw [Int.toNat_natCast]
  have e32 : (32 : Int) - (m : Int) = ((32 - m : Nat) : Int) := by omega
  obtain ⟨k, hk⟩ : ∃ k, k = 32 - m := ⟨_, rfl⟩
  rw [← hk] at e32
  have hr := u64_rott x m k (by omega) hk
  have hk1 : k < 32 := by omega
  have Hk := Lib.hid hk
  clear hk
  go_enter Tryd.func72, Tryd.ntmps72
  go_wp2
  go_ret
  exact ⟨rfl, rfl⟩
set_option maxHeartbeats 400000 in
theorem shift_any (x : BitVec 32) (n : Int) (hn : 0 < n) (hn2 : n < 32) (w : World) :
    Calls Tryd.prog 73 #[.int .u64 (uN x), .int .i64 n] w fun e w' => e = .returned (.int .u64 (uN (x >>> n.toNat))) ∧ w = w' := by
  obtain ⟨m, rfl⟩ := Int.eq_ofNat_of_zero_le (Int.le_of_lt hn)
  rw [Int.toNat_natCast]
  go_enter Tryd.func73, Tryd.ntmps73
  go_wp2
  go_ret
  exact ⟨rfl, rfl⟩
end Go.Proofs.YtbejolbknimmmaaDoor
/- Package mac's small functions: numbers as bytes, the key's block, its masks: what each call returns, and that it makes new memory alone. -/
namespace Go.Proofs.YtbejolbknimmmaaDoor
open Go Go.RowKit
set_option maxRecDepth 8000
set_option linter.all false

theorem u8_xor (x y : UInt8) : bits .xor .u8 (bN x) (bN y) = bN (x ^^^ y) := by
  have h : ∀ a b : BitVec 8, bits .xor .u8 ((a.toNat : Nat) : Int) ((b.toNat : Nat) : Int) = (((a ^^^ b).toNat : Nat) : Int) := by
    intro a b
    show IntKind.u8.wrap ((BitVec.ofInt 8 ((a.toNat : Nat) : Int) ^^^ BitVec.ofInt 8 ((b.toNat : Nat) : Int)).toNat : Int) = _
    simp only [BitVec.ofInt_natCast, BitVec.ofNat_toNat, BitVec.setWidth_eq]
    rw [wrap_u8]; have := (a ^^^ b).isLt; omega
  exact h x.toBitVec y.toBitVec
/-- The lowest s bytes of a number, the highest first. -/
def hiB (n s i : Nat) : UInt8 := UInt8.ofNat (n / 2 ^ (8 * (s - 1 - i)))
def hiL (n s : Nat) : List UInt8 := (List.range s).map (hiB n s)
theorem hiL_length (n s : Nat) : (hiL n s).length = s := by simp [hiL]
theorem hiB_eq (n s i : Nat) : IntKind.u8.wrap ((n : Int) / 2 ^ (8 * (s - 1 - i))) = bN (hiB n s i) := by
  rw [wrap_u8, hiB, bN, UInt8.toNat_ofNat']
  have h2 : ((2 : Int) ^ (8 * (s - 1 - i))) = ((2 ^ (8 * (s - 1 - i)) : Nat) : Int) := by simp
  rw [h2, ← Int.natCast_ediv]
  omega
set_option maxHeartbeats 1000000 in
theorem hiF_any (n s : Nat) (hs : 1 ≤ s) (hs2 : s ≤ 8) (w : World) :
    Cv 71 #[.int .u64 (n : Int), .int .i64 (s : Int)] w (svRdN w (hiL n s)) := by
  unfold Cv
  obtain ⟨i0, hi, hz0, hz1, hz2⟩ := info_parts info5
  have hmk : ∀ W : World, (Instr.makeSlice 33 (.int .i64 (s : Int)) (.int .i64 (s : Int))).run Tryd.prog W = .ok (.slice (some ⟨W.heap.size, 0, none⟩) s s) (W.alloc (.cells (rowA s (bF fun _ => 0)) 5)) := make_bytes i0 hi hz0 hz1 hz2 s (by omega)
  have HB := Lib.hid (hiB_eq n s)
  clear hi hz0 hz1 hz2
  go_enter Tryd.func71, Tryd.ntmps71
  go_wp2
  have r0 := rowIs_box w 5 s (bF fun _ => 0)
  have hB : Below w.heap.size w (w.alloc (.cells (rowA s (bF fun _ => 0)) 5)) := (Below.refl _ w).alloc (Nat.le_refl _) _
  generalize w.alloc (.cells (rowA s (bF fun _ => 0)) 5) = W0 at r0 hB ⊢
  clear hmk
  go_loopw [11] (fun i wr => ∃ k : Nat, k ≤ s ∧ i = .int .i64 k ∧ wr.rowIs w.heap.size 5 s (bF (putTo (hiB n s) k)) ∧ Below w.heap.size w wr) (fun i _ => s - (intOf i).toNat)
  case atStart => exact ⟨0, by omega, rfl, r0.congr fun i _ => by simp [bF, putTo], hB⟩
  case round =>
    obtain ⟨k, hk, rfl, q0, qB⟩ := hrel
    clear r0 hB
    by_cases hlt : k < s
    · have c0 := q0.cell (i := k) hlt
      have f0 := q0.frozen k
      have e8 : ((8 : Int) * ((s : Int) - 1 - (k : Int))).toNat = 8 * (s - 1 - k) := by omega
      have hb8 := HB.out k
      go_wp2
      go_roundw
      case rel => exact ⟨k + 1, by omega, by go_num, (q0.set k _).congr fun i _ => putTo_set _ k i, qB.setCell (by simp) _⟩
      case measure => simp [intOf]; omega
    · obtain rfl : k = s := by omega
      go_wp2
      go_ret
      refine ⟨_, rfl, qB, fun L hL => ?_⟩
      have := rd_row (L := L) q0 (fun hm => by have := hL _ hm; omega) (by omega)
      have e : (List.range k).map (putTo (hiB n k) k) = hiL n k := List.map_congr_left fun i hi => by simp at hi; simp [putTo, hi]
      rw [e] at this
      exact this
theorem hiF_4 (n : Nat) (w : World) : Cv 71 #[.int .u64 (n : Int), .int .i64 4] w (svRdN w (hiL n 4)) := hiF_any n 4 (by omega) (by omega) w
theorem hiF_8 (n : Nat) (w : World) : Cv 71 #[.int .u64 (n : Int), .int .i64 8] w (svRdN w (hiL n 8)) := hiF_any n 8 (by omega) (by omega) w
end Go.Proofs.YtbejolbknimmmaaDoor
/- Package mac: slices of slices that are put together piece by piece: each piece reads as bytes that no append turns. -/
namespace Go.Proofs.YtbejolbknimmmaaDoor
open Go Go.RowKit
set_option maxRecDepth 8000
set_option linter.all false

/-- Pieces: a row of slices of the call's own (from base on), each of which reads as its bytes outside that row. -/
def Pcs (W : World) (base : Nat) (v : Value) (ls : List (List UInt8)) : Prop :=
  ∃ ps : List (Value × List UInt8), ps.map (·.2) = ls ∧ W.ownsRow base 33 1 v ps.length (ps.map (·.1)) ∧ ∀ x ∈ ps, RdV W v.ownBlock.toList x.1 x.2
theorem Pcs.own_lt {W : World} {base : Nat} {v : Value} {ls : List (List UInt8)} (h : Pcs W base v ls) (k : Nat) (hk : v.ownBlock = some k) : k < W.heap.size ∧ base ≤ k := by
  obtain ⟨ps, _, ho, _⟩ := h
  exact ⟨(ho.lt k hk).2, (ho.lt k hk).1⟩
theorem Pcs.new {W W' : World} {base : Nat} {v : Value} {ls : List (List UInt8)} (h : Pcs W base v ls) (hN : NewT W W') : Pcs W' base v ls := by
  have hlt := h.own_lt
  obtain ⟨ps, h1, h2, h3⟩ := h
  refine ⟨ps, h1, ?_, fun x hx => hN.rd (h3 x hx)⟩
  obtain ⟨a, b⟩ := h2
  refine ⟨a, ?_⟩
  rcases b with b | ⟨g, cap, cur, rfl, hb, hg, r⟩
  · exact .inl b
  · exact .inr ⟨g, cap, cur, rfl, hb, (hN.out.block g (hlt g rfl).1).trans hg, r⟩
theorem Pcs.parts {W : World} {base : Nat} {v : Value} {ls : List (List UInt8)} (h : Pcs W base v ls) : Parts W v ls := by
  obtain ⟨ps, h1, h2, h3⟩ := h
  refine ⟨ps, ?_, h1⟩
  rcases h2.2 with ⟨rfl, h0⟩ | ⟨g, cap, cur, rfl, _, _, hnc, hcm, _, _⟩
  · have : ps = [] := List.eq_nil_of_length_eq_zero h0
    subst this
    exact ⟨none, 0, rfl, Nat.le_refl _, by unfold maxLen; omega, fun h => absurd h (by simp), fun x hx => by simp at hx⟩
  · refine ⟨some ⟨g, 0, none⟩, cap, rfl, hnc, hcm, fun _ => ⟨g, 0, rfl, by simp, fun i x hx => ?_⟩, fun x hx => (h3 x hx).less (by simp)⟩
    have hc := h2.cells (g := g) rfl i x.1 (by rw [List.getElem?_map, hx]; rfl)
    rwa [Addr.add_mid] at hc
theorem info24 : (Tryd.prog.info? 33).map (fun i => (i.zero, i.size, i.bytes)) = some (some (.slice none 0 0), 1, 24) := by kernel_rfl
/-- New pieces are put behind. -/
theorem run_append_pcs {W : World} {base : Nat} {v : Value} {ls : List (List UInt8)} (hp : Pcs W base v ls) (hbase : base ≤ W.heap.size) (us : List (Value × List UInt8)) (hu : ∀ x ∈ us, RdV W v.ownBlock.toList x.1 x.2)
    (s c : Nat) (hs : ∀ j x, us[j]? = some x → W.cell? ⟨s, j, none⟩ = some x.1) (hlen : ls.length + us.length ≤ 1000000) (ty : TypeId) :
    ∃ v' w', (Builtin.append_ #[26, 26] ty #[v, .slice (some ⟨s, 0, none⟩) us.length c]).run Tryd.prog W = .ok v' w' ∧ Pcs w' base v' (ls ++ us.map (·.2)) ∧ W.grownBy w' v.ownBlock := by
  obtain ⟨ps, h1, h2, h3⟩ := hp
  have hpl : ps.length = ls.length := by rw [← h1]; simp
  obtain ⟨i0, hi, hz0, hz1, hz2⟩ := info_parts info24
  obtain ⟨v', w', hrun, hown, hgr, _, hat⟩ := run_append_own_at (P := Tryd.prog) (w := W) base 26 ty 33 i0 _ 1 24 Tryd.underlying26 hi hz0 hz1 hz2 rfl (by omega) v ps.length (ps.map (·.1)) h2
    ⟨s, 0, none⟩ us.length c (us.map (·.1)) (by simp) (fun j u hj => by
      rw [Addr.add_mid, Nat.zero_add]
      rw [List.getElem?_map] at hj
      cases hx : us[j]? with
      | none => rw [hx] at hj; simp at hj
      | some x => rw [hx] at hj; simp at hj; subst hj; exact hs j x hx)
    (fun u hm => by
      obtain ⟨x, hx, rfl⟩ := List.mem_map.1 hm
      obtain ⟨A, cap, hv, _⟩ := hu x hx
      rw [hv]; rfl) (by unfold maxLen; omega) (by omega) hbase
  refine ⟨v', w', hrun, ⟨ps ++ us, by rw [List.map_append, h1], by rw [List.length_append, List.map_append]; exact hown, fun x hx => ?_⟩, hgr⟩
  have hx0 : RdV W v.ownBlock.toList x.1 x.2 := by
    rcases List.mem_append.1 hx with h | h
    · exact h3 x h
    · exact hu x h
  rcases hat with e | e
  · rw [e]; exact hx0.keep (keepBut_grown hgr fun k hk => by simp [hk])
  · rw [e]
    have hx1 : RdV W (W.heap.size :: v.ownBlock.toList) x.1 x.2 := hx0.more fun k hk hn hm => by
      rcases List.mem_cons.1 hm with rfl | h
      · omega
      · exact hn h
    exact (hx1.keep (keepBut_grown hgr fun k hk => by simp [hk])).less (by simp)
theorem Pcs.below {W w' : World} {base : Nat} {v : Value} {ls : List (List UInt8)} (h : Pcs W base v ls) (hg : W.grownBy w' v.ownBlock) (hb : base ≤ W.heap.size) : Below base W w' :=
  (Below.refl base W).grown hg hb (fun k hk => (h.own_lt k hk).2)
end Go.Proofs.YtbejolbknimmmaaDoor
/- Package mac: parts behind their lengths, words as bytes, and the texts that are put together of them. -/
namespace Go.Proofs.YtbejolbknimmmaaDoor
open Go Go.RowKit
set_option maxRecDepth 8000
set_option linter.all false

/-- A number of 64 bits, as it lies in memory (two's complement). -/
def wN (n : Int) : Nat := (n % 18446744073709551616).toNat
theorem wN_eq (n : Int) : IntKind.u64.wrap n = (wN n : Int) := by rw [wrap_u64, wN]; omega
theorem wN_nat (n : Nat) (h : n < 18446744073709551616) : wN (n : Int) = n := by unfold wN; omega
set_option maxHeartbeats 1000000 in
theorem countedPart_any (v u : Value) (base : Nat) (ls : List (List UInt8)) (l : List UInt8) (w : World) (hp : Pcs w base v ls) (hb : base ≤ w.heap.size) (hu : RdV w v.ownBlock.toList u l) (hlen : ls.length ≤ 900000) :
    Calls Tryd.prog 60 #[v, u] w fun e w' => ∃ v', e = .returned v' ∧ Pcs w' base v' (ls ++ [hiL l.length 4, l]) ∧ Below base w w' := by
  obtain ⟨A, c, rfl, hlc, hcm, h0⟩ := hu
  have hu : RdV w v.ownBlock.toList (.slice A l.length c) l := ⟨A, c, rfl, hlc, hcm, h0⟩
  have hcm' := hcm
  unfold maxLen at hcm'
  have hw : IntKind.u64.wrap (l.length : Int) = (l.length : Int) := by rw [wN_eq, wN_nat _ (by omega)]
  have Hp := Lib.hid hp
  have Hu := Lib.hid hu
  clear h0 hlc hcm hcm' hp hu
  go_enter Tryd.func60, Tryd.ntmps60
  go_upto_region 1 with fail
  refine wp_region_lit ?_
  iterate 4 (refine wpList_plain rfl (fun K hK => ?_); go_simp; refine hK _ _ ?_; clear hK K)
  refine wpList_plain rfl (fun K hK => ?_)
  refine opr_cv (hiF_4 l.length w) rfl Tryd.func71 (by kernel_rfl) (by kernel_rfl) (by simp only [List.map_toArray, List.map_cons, List.map_nil]; rfl) ?_
  intro hv w1 hN1 hnew
  refine hK _ _ ?_
  clear hK K hw
  have hr9 := hnew v.ownBlock.toList (fun k hk => (Hp.out.own_lt k (by simpa using hk)).1)
  replace Hp := Lib.hid (Hp.out.new hN1)
  replace Hu := Lib.hid (hN1.rd Hu.out)
  obtain ⟨A9, c9, rfl, h9⟩ := hr9
  have hr9 : RdV w1 v.ownBlock.toList (.slice A9 (hiL l.length 4).length c9) (hiL l.length 4) := ⟨A9, c9, rfl, h9⟩
  have Hr9 := Lib.hid hr9
  clear hr9 h9 hnew
  have hb1 : base ≤ w1.heap.size := Nat.le_trans hb hN1.out.size
  have hN := NewT.alloc w1 (.cells #[.slice A9 (hiL l.length 4).length c9, .slice A l.length c] 33)
  have hrun := run_append_pcs (Hp.out.new hN) (Nat.le_trans hb1 hN.out.size) [(.slice A9 (hiL l.length 4).length c9, hiL l.length 4), (.slice A l.length c, l)] (by simp only [List.mem_cons, List.not_mem_nil, or_false]; intro x hx; rcases hx with rfl | rfl; (exact hN.rd Hr9.out); (exact hN.rd Hu.out)) w1.heap.size 2 (fun j x hx => by
    match j, hx with
    | 0, hx => simp at hx; subst hx; rw [cell_new_fr _ _ _ _ _ _ rfl]; rfl
    | 1, hx => simp at hx; subst hx; rw [cell_new_fr _ _ _ _ _ _ rfl]; rfl) (by simp; omega) 26
  obtain ⟨v', w', hr, hp', hgr⟩ := hrun
  have hB : Below base w w' := (hN1.out.mono hb).trans (((Below.refl base w1).alloc hb1 _).trans ((Hp.out.new hN).below hgr (Nat.le_trans hb1 hN.out.size)))
  have Hp' := Lib.hid hp'
  have HB := Lib.hid hB
  clear hp' hB hgr hN Hp Hu Hr9
  simp only [List.length_cons, List.length_nil, Nat.zero_add, Nat.reduceAdd] at hr
  iterate 2 (refine wpList_plain rfl (fun K hK => ?_); go_simp; refine hK _ _ ?_; clear hK K)
  refine wpList_plain rfl (fun K hK => ?_)
  refine opr_append rfl rfl rfl hr (hK _ _ ?_)
  clear hr hK K
  refine wpList_plain rfl (fun K hK => ?_)
  refine opr_move (.inr rfl) (hK _ _ ?_)
  clear hK K
  refine wpList_nil ?_
  go_simp
  go_wp2
  go_ret
  exact ⟨v', rfl, Hp'.out, HB.out⟩
end Go.Proofs.YtbejolbknimmmaaDoor
/- Package mac: texts put together of counted pieces. -/
namespace Go.Proofs.YtbejolbknimmmaaDoor
open Go Go.RowKit
set_option maxRecDepth 8000
set_option linter.all false
/-- A part behind its length. -/
def cntP (l : List UInt8) : List (List UInt8) := [hiL l.length 4, l]
theorem cnt_length (ls : List (List UInt8)) : (ls.flatMap cntP).length = 2 * ls.length := by
  induction ls with
  | nil => rfl
  | cons x ls ih => simp [cntP] at ih ⊢; omega
theorem pcs_one {w : World} {A : Option Addr} {n c : Nat} {l : List UInt8} (h : RdV w [] (.slice A n c) l) : Pcs (w.alloc (.cells #[.slice A n c] 33)) w.heap.size (.slice (some ⟨w.heap.size, 0, none⟩) 1 1) [l] := by
  refine ⟨[(.slice A n c, l)], rfl, ⟨rfl, .inr ⟨w.heap.size, 1, #[.slice A n c], rfl, Nat.le_refl _, World.alloc_heap_new _ _, Nat.le_refl _, by unfold maxLen; omega, rfl, rfl⟩⟩, fun x hx => ?_⟩
  simp at hx
  subst hx
  refine (NewT.alloc w _).rd (h.more fun k hk _ hm => ?_)
  simp [Value.ownBlock] at hm
  omega
/-- What lay there reads on beside the call's own row. -/
theorem rd_beside {w wr : World} {v u : Value} {ls : List (List UInt8)} {l : List UInt8} (h : RdV w [] u l) (hp : Pcs wr w.heap.size v ls) (hB : Below w.heap.size w wr) : RdV wr v.ownBlock.toList u l :=
  (h.more fun k hk _ hm => by have := (hp.own_lt k (by simpa using hm)).2; omega).keep (KeepBut.below hB)
set_option maxHeartbeats 1000000 in
theorem text_counted (v0 pv : Value) (l0 : List UInt8) (ls : List (List UInt8)) (w : World) (h0 : RdV w [] v0 l0) (hp : Parts w pv ls) (hlen : ls.length ≤ 100000) :
    Cv 59 #[v0, .func (.func 60) #[] #[], pv] w (svParts (l0 :: (ls).flatMap cntP)) := by
  unfold Cv
  obtain ⟨A0, c0, rfl, h00⟩ := h0
  have H0 : Hid (RdV w [] (.slice A0 l0.length c0) l0) := Lib.hid ⟨A0, c0, rfl, h00⟩
  clear h00
  obtain ⟨ps, hps, rfl⟩ := hp
  obtain ⟨A, cap, rfl, hpc, hpm, hA, hR⟩ := hps
  unfold maxLen at hpm
  obtain ⟨n, hn⟩ : ∃ n, n = ps.length := ⟨_, rfl⟩
  rw [← hn] at hpc
  have Hn : Hid (n = (ps.map (·.2)).length) := Lib.hid (by simpa using hn)
  have hlen' : n ≤ 100000 := by rw [Hn.out]; exact hlen
  have HA := Lib.hid (show 0 < n → ∃ b o, A = some ⟨b, o, none⟩ ∧ ∀ i x, ps[i]? = some x → w.cell? ⟨b, o + i, none⟩ = some x.1 from fun h => by
    obtain ⟨b, o, h1, _, h2⟩ := hA (by omega)
    exact ⟨b, o, h1, h2⟩)
  have HR := Lib.hid hR
  rw [← hn]
  have Hps := Lib.hid hn
  clear hA hR hn hlen
  go_enter Tryd.func59, Tryd.ntmps59
  go_wp2
  have p0 := pcs_one H0.out
  have hB : Below w.heap.size w (w.alloc (.cells #[.slice A0 l0.length c0] 33)) := (Below.refl _ w).alloc (Nat.le_refl _) _
  generalize w.alloc (.cells #[.slice A0 l0.length c0] 33) = W0 at p0 hB ⊢
  go_loopw [7, 14] (fun v i wr => ∃ k : Nat, k ≤ n ∧ i = .int .i64 k ∧ Pcs wr w.heap.size v (l0 :: ((ps.map (·.2)).take k).flatMap cntP) ∧ Below w.heap.size w wr) (fun _ i _ => n - (intOf i).toNat)
  case atStart => exact ⟨0, by omega, rfl, by simpa using p0, hB⟩
  case round =>
    obtain ⟨k, hk, rfl, hp, qB⟩ := hrel
    clear p0 hB
    by_cases hlt : k < n
    · obtain ⟨b, o, rfl, hcells⟩ := HA.out (by omega)
      have hx : ps[k]? = some ps[k] := List.getElem?_eq_getElem (by rw [← Hps.out]; exact hlt)
      generalize hxx : ps[k] = x at hx
      have hcell := (qB.cell (p := ⟨b, o + k, none⟩) (World.block_lt_of_cell? _ _ (hcells k x hx))).trans (hcells k x hx)
      have hrd := rd_beside (HR.out x (List.mem_of_getElem? hx)) hp qB
      have hll : (l0 :: ((ps.map (·.2)).take k).flatMap cntP).length ≤ 900000 := by
        rw [List.length_cons, cnt_length, List.length_take]; omega
      have Hext : Hid (((ps.map (·.2)).take (k + 1)).flatMap cntP = ((ps.map (·.2)).take k).flatMap cntP ++ [hiL x.2.length 4, x.2]) := Lib.hid (by
        rw [List.take_add_one, List.getElem?_map, hx]; simp [cntP])
      obtain ⟨A', c', hv', hr0⟩ := hrd
      have Hrd : Hid (RdV wr (Value.ownBlock u7).toList (.slice A' x.2.length c') x.2) := Lib.hid ⟨A', c', rfl, hr0⟩
      rw [hv'] at hcell
      have Hp := Lib.hid hp
      clear hr0 hv' hx hxx hcells hp
      go_wp2_with (go_at_call 60; refine (countedPart_any _ _ _ _ x.2 _ Hp.out qB.size Hrd.out hll).mono ?_; rintro e w2 ⟨v', rfl, hp2, hB2⟩)
      go_roundw
      case rel =>
        refine ⟨k + 1, by omega, by go_num, ?_, qB.trans hB2⟩
        have e := Hext.out
        rw [e]
        simpa using hp2
      case measure => simp [intOf]; omega
    · obtain rfl : k = n := by omega
      go_wp2
      go_ret
      refine ⟨_, rfl, qB, ?_⟩
      have := hp.parts
      rw [Hn.out, List.take_length] at this
      exact this
end Go.Proofs.YtbejolbknimmmaaDoor
/- Package mac: the digest of a domain: what Of returns. -/
namespace Go.Proofs.YtbejolbknimmmaaDoor
open Go Go.RowKit
set_option maxRecDepth 8000
set_option linter.all false
/-- The low byte of a number. -/
def dB (n : Int) : UInt8 := UInt8.ofNat (n % 256).toNat
theorem dB_eq (n : Int) : IntKind.u8.wrap n = bN (dB n) := by rw [wrap_u8, dB, bN, UInt8.toNat_ofNat']; omega
theorem run_bsb1 (x : Int) (w : World) : (Instr.buildSlice 33 1 #[(0, .int .u8 x)]).run Tryd.prog w = .ok (.slice (some ⟨w.heap.size, 0, none⟩) 1 1) (w.alloc (.cells #[.int .u8 x] 5)) := by
  simp [go_sem]
theorem rd_one (b : UInt8) (w : World) : RdV (w.alloc (.cells #[.int .u8 (bN b)] 5)) [] (.slice (some ⟨w.heap.size, 0, none⟩) 1 1) [b] :=
  rdV_lit (l := [b]) (by simp) (by decide) fun i hi => by
    obtain rfl : i = 0 := by simpa using hi
    rw [cell_new_fr _ _ _ _ _ _ rfl]; rfl
/-- A new slice of one byte. -/
theorem opr_bsb1 {a : Act} {w : World} {o : Oper} {K : Act → World → Prop} {Q : Exit → Act → World → Prop} {x : Operand} {b : UInt8} (ho : o.op = .buildSlice 33 1 #[(0, x)]) (hx : a.eval x = .int .u8 (bN b)) (h : ∀ v w', NewT w w' → RdV w' [] v [b] → K (a.put o.dst v) w') : o.wp Tryd.prog a w K Q := by
  obtain ⟨dst, op, type, pos, after, guard⟩ := o
  simp only at ho
  subst ho
  exact opr_val (s := Instr.buildSlice 33 1 #[(0, a.eval x)]) (by simp [execOp]) (by rw [hx]; exact run_bsb1 _ w) (h _ _ (NewT.alloc _ _) (rd_one b w))
/-- The text of a domain and parts. -/
def ofL (n : Int) (ls : List (List UInt8)) : List UInt8 := dB n :: (ls.flatMap cntP).flatten
theorem ofL_length (n : Int) (ls : List (List UInt8)) : (ofL n ls).length = 1 + 4 * ls.length + ls.flatten.length := by
  unfold ofL
  rw [List.length_cons]
  induction ls with
  | nil => rfl
  | cons x ls ih => simp [cntP, hiL_length] at ih ⊢; omega
set_option maxHeartbeats 2000000 in
theorem Of_cv (n : Int) (pv : Value) (ls : List (List UInt8)) (D : Nat → UInt8) (w : World) (hT : Tables w) (hp : Parts w pv ls) (hlen : ls.length ≤ 100000) (htot : ls.flatten.length ≤ 1000000) (hD : shaL Kc Fc (ofL n ls) = D) :
    Cv 48 #[.int .i64 n, pv] w (.eq (.agg (rowA 32 (bF D)))) := by
  unfold Cv
  have HD := Lib.hid hD
  have HT := Lib.hid hT
  have Hp := Lib.hid hp
  have hdb := dB_eq n
  have hol := ofL_length n ls
  have Hol := Lib.hid hol
  clear hT hp hD hol
  go_enter Tryd.func48, Tryd.ntmps48
  go_upto_region 1 with fail
  have r0 := rowIs_box w 48 32 (bF fun _ => 0)
  have hB0 := NewT.alloc w (.cells (rowA 32 (bF fun _ => 0)) 48)
  change Code.wp _ _ _ _ (w.alloc (.cells (rowA 32 (bF fun _ => 0)) 48))
  generalize w.alloc (.cells (rowA 32 (bF fun _ => 0)) 48) = W0 at r0 hB0 ⊢
  replace HT := Lib.hid (hB0.tables HT.out)
  replace Hp := Lib.hid (hB0.partsL Hp.out)
  refine wp_region_seq NewT [SV.eq (.int .i64 n), SV.eq (.int .u8 (bN (dB n))), svRd [dB n], svParts ls, svParts ([dB n] :: ls.flatMap cntP), SV.eq (.agg (rowA 32 (bF D)))] [([(0, none)], none), ([(5, some 0)], none), ([(6, some 1)], none), ([(1, none)], none), ([(7, some 2), (8, some 3)], none), ([(9, some 4)], none)] 11 rfl rfl (by kernel_rfl) rfl NewT.trans (NewT.refl _) (Nat.le_of_ble_eq_true rfl) ⟨?_, ?_, ?_, ?_, ?_, ?_, trivial⟩ ?_
  · -- 0: Op.move t0
    intro a wx hT hF K hK
    obtain ⟨f0, _⟩ := hF
    have f0 : a.tmps.getD 0 undef = .int .i64 n := f0
    refine rely_wp rfl ?_
    exact opr_move (.inl rfl) (hK _ _ (NewT.refl _) f0)
  · -- 1: Op.convert 3 5 t5
    intro a wx hT hF K hK
    obtain ⟨f5, _⟩ := hF
    have f5 : a.tmps.getD 5 undef = .int .i64 n := f5
    refine rely_wp rfl ?_
    simp only [Array.getD_eq_getD_getElem?] at f5
    go_simp
    exact hK _ _ (NewT.refl _) rfl
  · -- 2: Op.buildSlice 33 1 #[(0, t6)]
    intro a wx hT hF K hK
    obtain ⟨f6, _⟩ := hF
    have f6 : a.tmps.getD 6 undef = .int .u8 (bN (dB n)) := f6
    refine rely_wp rfl ?_
    exact opr_bsb1 rfl f6 hK
  · -- 3: Op.move t1
    intro a wx hT hF K hK
    obtain ⟨f1, _⟩ := hF
    have f1 : a.tmps.getD 1 undef = pv := f1
    refine rely_wp rfl ?_
    exact opr_move (.inl rfl) (hK _ _ (NewT.refl _) (by rw [eval_tmp, f1]; exact hT.partsL Hp.out))
  · -- 4: Op.call ( value (Operand.func 59), args := #[t7, Operand.fun
    intro a wx hT hF K hK
    obtain ⟨f7, f8, _⟩ := hF
    replace f7 := show (svRd [dB n]).pred (a.tmps.getD 7 undef) wx from f7
    replace f8 := show (svParts ls).pred (a.tmps.getD 8 undef) wx from f8
    refine rely_wp rfl ?_
    exact opr_cv (text_counted _ _ [dB n] ls wx f7 f8 hlen) rfl Tryd.func59 (by kernel_rfl) (by kernel_rfl) (by simp only [List.map_toArray, List.map_cons, List.map_nil, eval_tmp, eval_func]) hK
  · -- 5: Op.call ( value (Operand.func 58), args := #[t9], argTypes :
    intro a wx hT hF K hK
    obtain ⟨f9, _⟩ := hF
    replace f9 := show (svParts ([dB n] :: ls.flatMap cntP)).pred (a.tmps.getD 9 undef) wx from f9
    refine rely_wp rfl ?_
    exact opr_cv (Sum_cv _ ([dB n] :: ls.flatMap cntP) D wx (hT.tables HT.out) f9 (by show (ofL n ls).length ≤ _; have := Hol.out; omega) (by simpa [ofL] using HD.out)) rfl Tryd.func58 (by kernel_rfl) (by kernel_rfl) (by simp only [List.map_toArray, List.map_cons, List.map_nil, eval_tmp]) hK
  · intro wx hT
    intro u h; obtain rfl := h (by simp); clear h
    intro u h; obtain rfl := h (by simp); clear h
    intro u7 h; have g7 := h (by simp); clear h; replace g7 := show (svRd [dB n]).pred u7 wx from g7
    intro u8 h; have g8 := h (by simp); clear h; replace g8 := show (svParts ls).pred u8 wx from g8
    intro u9 h; have g9 := h (by simp); clear h; replace g9 := show (svParts ([dB n] :: ls.flatMap cntP)).pred u9 wx from g9
    intro u h; obtain rfl := h (by simp); clear h
    refine relyEnd_nil rfl ?_
    simp only [Act.put, List.setIfInBounds_toArray, List.set_cons_zero, List.set_cons_succ]
    refine opr_store_new (B := w.heap.size) (W := w) info31 rfl rfl rfl (hT.row r0) (NewT.trans _ _ _ hB0 hT) (Nat.le_refl _) ?_
    intro w9 hB9 r9
    go_simp
    go_wp2
    exact bodyPost_ret (results_row rfl _ rfl r9 Tryd.underlying48 info31) rfl ⟨_, rfl, hB9, rfl⟩
end Go.Proofs.YtbejolbknimmmaaDoor
/- A log's chain in this program's words: its step, its mark; how many bytes an entry has. -/
namespace Go.Proofs.YtbejolbknimmmaaDoor
open Go Go.RowKit
set_option maxRecDepth 8000
set_option linter.all false
/-- The chain's step, whatever the digest is. -/
structure LogH (nx : (Nat → UInt8) → List UInt8 → Nat → UInt8) : Prop where
  of : ∀ d e, shaL Kc Fc (ofL 5 [digL d, e]) = nx d e
theorem logH_ex : ∃ nx, LogH nx := ⟨fun d e => shaL Kc Fc (ofL 5 [digL d, e]), ⟨fun _ _ => rfl⟩⟩
/-- The bytes of the chain that stand behind an entry. -/
def mkL (d : Nat → UInt8) : List UInt8 := (digL d).take 8
theorem mkL_length (d : Nat → UInt8) : (mkL d).length = 8 := by unfold mkL; rw [List.length_take, digL_length]; omega
/-- How many bytes an entry of n bytes has on a disk. -/
def esz (n : Int) : Int := if n < 1 ∨ 2000 < n then 0 else (sz n.toNat : Int) + n + 8
theorem entL_length (nx : (Nat → UInt8) → List UInt8 → Nat → UInt8) (c : Nat → UInt8) (e : List UInt8) : (entL nx mkL c e).length = sz e.length + e.length + 8 := by
  unfold entL; rw [List.length_append, List.length_append, numL_length, mkL_length]
theorem esz_ok {e : List UInt8} (h : okE e) (nx : (Nat → UInt8) → List UInt8 → Nat → UInt8) (c : Nat → UInt8) : esz (e.length : Int) = ((entL nx mkL c e).length : Int) := by
  have := h.1; have := h.2
  rw [entL_length]; unfold esz; rw [if_neg (by omega), Int.toNat_natCast]; omega
theorem sz_small {n : Nat} (h : n ≤ 2000) : sz n ≤ 2 := by unfold sz; split; · omega
                                                           · rw [if_pos (by omega)]; exact Nat.le_refl _
theorem esz_2000 : esz 2000 = 2010 := by decide
theorem esz_bounds (n : Int) : 0 ≤ esz n ∧ esz n ≤ 2010 := by
  unfold esz; split
  · omega
  · have := sz_small (n := n.toNat) (by omega); omega
set_option maxHeartbeats 1000000 in
theorem Size_cv (n : Int) (w : World) : Cv 43 #[.int .i64 n] w (.eq (.int .i64 (esz n))) := by
  unfold Cv esz
  by_cases h1 : n < 1
  · rw [if_pos (.inl h1)]
    go_enter Tryd.func43, Tryd.ntmps43
    go_wp2
    go_ret
    exact ⟨_, rfl, NewT.refl _, rfl⟩
  by_cases h2 : 2000 < n
  · rw [if_pos (.inr h2)]
    go_enter Tryd.func43, Tryd.ntmps43
    go_wp2
    go_ret
    exact ⟨_, rfl, NewT.refl _, rfl⟩
  rw [if_neg (by omega)]
  obtain ⟨m, rfl⟩ : ∃ m : Nat, n = m := ⟨n.toNat, by omega⟩
  have hs := sz_small (n := m) (by omega)
  have HN : Hid (numI (m : Int) = numL m) := Lib.hid (numI_nat m (by omega))
  rw [Int.toNat_natCast]
  have HL : Hid ((numL m).length = sz m) := Lib.hid (numL_length m)
  generalize sz m = k at *
  have HM : Hid (m ≤ 2000 ∧ k ≤ 2) := Lib.hid ⟨by omega, hs⟩
  have HW1 : Hid (wrap64 ((k : Int) + (m : Int)) = (k : Int) + (m : Int)) := Lib.hid (by unfold wrap64; omega)
  have HW2 : Hid (wrap64 ((k : Int) + (m : Int) + 8) = (k : Int) + (m : Int) + 8) := Lib.hid (by unfold wrap64; omega)
  clear hs
  go_enter Tryd.func43, Tryd.ntmps43
  go_wp2_with (go_at_call 53; refine Calls.mono (Num_rd (m : Int) (numL m) w HN.out) ?_; rintro _ w1 ⟨v, rfl, hN, hv⟩; obtain ⟨A, c, rfl, _⟩ := (show RdV _ _ _ _ from hv); rw [HL.out])
  go_ret
  refine ⟨_, rfl, hN, ?_⟩
  first | rfl | (show Value.int _ _ = _; simp only [HW1.out, HW2.out])
end Go.Proofs.YtbejolbknimmmaaDoor
/- A row of bytes of a call's own, and appends to it. -/
namespace Go.Proofs.YtbejolbknimmmaaDoor
open Go Go.RowKit
set_option maxRecDepth 8000
set_option linter.all false
/-- A row of bytes of a call's own, from W on. -/
def svOwn (W : World) (l : List UInt8) : SV NewT := ⟨fun v w => w.ownsRow W.heap.size 5 1 v l.length (l.map fun b => .int .u8 (bN b)), fun v w w' h hT => by
  obtain ⟨a, b⟩ := h
  refine ⟨a, ?_⟩
  rcases b with b | ⟨g, cap, cur, rfl, hb, hg, r⟩
  · exact .inl b
  · have hlt : g < w.heap.size := by
      rcases Nat.lt_or_ge g w.heap.size with h | h
      · exact h
      · rw [Array.getElem?_eq_none h] at hg; cases hg
    exact .inr ⟨g, cap, cur, rfl, hb, (hT.out.block g hlt).trans hg, r⟩⟩
/-- Bytes put behind a row of the call's own: the row reads as both, and nothing below turns. -/
theorem run_append_two {W W0 : World} {v u : Value} {l m : List UInt8} (ho : (svOwn W0 l).pred v W) (hW : W0.heap.size ≤ W.heap.size) (hr : RdV W [] u m) (hn : l.length + m.length ≤ 900000) (ty : TypeId) :
    ∃ v' w', (Builtin.append_ #[33, 33] ty #[v, u]).run Tryd.prog W = .ok v' w' ∧ (svOwn W0 (l ++ m)).pred v' w' ∧ RdV w' [] v' (l ++ m) ∧ Below W0.heap.size W w' := by
  obtain ⟨i0, hi, hz0, hz1, hz2⟩ := info_parts info5
  obtain ⟨v', w', h1, h2, h3⟩ := run_append_rd (P := Tryd.prog) (ty := ty) Tryd.underlying33 hi hz0 hz1 hz2 ho hr (by omega) hW
  have e : l.map (fun b => Value.int .u8 (bN b)) ++ m.map (fun b => Value.int .u8 (bN b)) = (l ++ m).map fun b => Value.int .u8 (bN b) := by simp
  rw [e] at h2
  refine ⟨v', w', h1, ?_, rdV_own h2 (by simp) (by simp), (Below.refl _ W).grown h3 hW (fun k hk => (World.ownsRow.lt ho k hk).1)⟩
  show w'.ownsRow W0.heap.size 5 1 v' (l ++ m).length _
  rw [List.length_append]; exact h2
theorem own_from {W W1 : World} {l : List UInt8} {v : Value} {w : World} (hT : NewT W W1) (h : (svOwn W1 l).pred v w) : (svOwn W l).pred v w := by
  obtain ⟨a, b⟩ := h
  refine ⟨a, ?_⟩
  rcases b with b | ⟨g, cap, cur, hv, hb, r⟩
  · exact .inl b
  · exact .inr ⟨g, cap, cur, hv, Nat.le_trans hT.out.size hb, r⟩
theorem own_one (b : UInt8) (w : World) : (svOwn w [b]).pred (.slice (some ⟨w.heap.size, 0, none⟩) 1 1) (w.alloc (.cells #[.int .u8 (bN b)] 5)) :=
  ⟨rfl, .inr ⟨w.heap.size, 1, #[.int .u8 (bN b)], rfl, Nat.le_refl _, World.alloc_heap_new _ _, Nat.le_refl _, by unfold maxLen; omega, rfl, rfl⟩⟩
end Go.Proofs.YtbejolbknimmmaaDoor
