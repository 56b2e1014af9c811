/- The laws' arguments, opened, more: slices of slices of bytes (with what bounds each), slices of numbers, single numbers. -/
import Derived.Test.YtpoebajpmkcjdaaDoorE2
import Derived.Test.YtpoebajpmkcjdaaDoorM6
import Derived.Deep.Matrix
import Derived.SizedLaws
namespace Go.Proofs.YtpoebajpmkcjdaaDoor
open Go.ChangeShapes Go.WideShapes Go.ChangeAt Go.WideMaps Go.WideElems Go.RowKit

theorem weights_all_mem {H : Type} {P : Program} {e : TypeId} : ∀ {l : List (DataW H)} {d : DataW H}, d ∈ l → ∀ n ∈ d.weights P e, n ∈ DataW.weightsAll P e l
  | d' :: r, d, hd, n, hn => by
    simp only [DataW.weightsAll, List.mem_append]
    rcases List.mem_cons.1 hd with rfl | h
    · exact Or.inl hn
    · exact Or.inr (weights_all_mem h n hn)
theorem weights_one {H : Type} {P : Program} {ts : List TypeId} {ds : List (DataW H)} (h : (DataW.weightsEach P ts ds).all (· ≤ reachBytes) = true) {j : Nat} {t : TypeId} {d : DataW H} (ht : ts[j]? = some t) (hd : ds[j]? = some d) : ∀ n ∈ d.weights P t, n ≤ reachBytes :=
  fun n hn => by simpa using List.all_eq_true.1 h n (DataW.weights_mem_each ht hd n hn)
theorem cells1 : Tryd.prog.cellsOf 24 = 1 := by kernel_rfl
theorem cells1b : Tryd.prog.cellsOf 5 = 1 := by kernel_rfl
theorem bytes1 : Tryd.prog.bytesOf 5 = 1 := by kernel_rfl
/-- A slice of slices of bytes that came in reads as a list of lists; each is short enough to lie in memory. -/
theorem open_parts {H : Type} {enc : TypeId × Value → H} {w : World} {base : Nat} {held : Bool} {v : Value} {d : DataW H} {p : List MemPlace} {r : Reach} {b0 : Nat}
    (hv : Value.okWide Tryd.prog w r b0 41 v) (h : DataW.Trod enc Tryd.prog w base (fun _ => true) held 41 v d p) (hw : ∀ n ∈ d.weights Tryd.prog 41, n ≤ reachBytes) : ∃ ls : List (List UInt8), Parts w v ls ∧ ∀ l ∈ ls, l.length ≤ 140737488351232 := by
  obtain ⟨a0, len, cap, rfl⟩ := okWide_slice Tryd.underlying41 hv
  obtain ⟨fuel, hf⟩ := h
  rcases Go.Deep.open_int_rows Tryd.underlying41 Tryd.underlying24 Tryd.underlying5 cells1 cells1b hf with ⟨hcs, _⟩ | ⟨a, len', cap', A, L, C, Z, hcs, _, hl, hm, hx, hr⟩
  · simp [Value.cells] at hcs
    obtain ⟨rfl, rfl, rfl⟩ := hcs
    exact ⟨[], ⟨[], ⟨none, 0, rfl, by simp, by unfold maxLen; omega, fun h0 => absurd h0 (by simp), fun x hx => by simp at hx⟩, rfl⟩, fun l hl => by simp at hl⟩
  · simp [Value.cells] at hcs
    obtain ⟨rfl, rfl, rfl⟩ := hcs
    simp only [Prod.mk.injEq] at hx
    obtain ⟨hd, _⟩ := hx
    have hlenl : ∀ i, i < len → ((Z i).take (L i)).length = L i := fun i hi => by
      obtain ⟨_, h1, _, h3, _⟩ := hr i (by omega)
      simp; omega
    refine ⟨(List.range len).map fun i => ((Z i).take (L i)).map fun z => UInt8.ofNat z.toNat, ⟨(List.range len).map fun i => (.slice (A i) (L i) (C i), ((Z i).take (L i)).map fun z => UInt8.ofNat z.toNat), ⟨some a, cap, by simp, by simpa using hl, hm, fun h0 => ?_, fun x hx => ?_⟩, by simp⟩, fun l hlm => ?_⟩
    · have h0' : 0 < len := by simpa using h0
      obtain ⟨b, off, spot⟩ := a
      have hspot : spot = none := by simpa [Addr.add] using World.cell?_spot (hr 0 (by omega)).1
      subst hspot
      refine ⟨b, off, rfl, by simp, fun i x hx => ?_⟩
      rw [List.getElem?_map] at hx
      have hi : i < len := by
        have := (List.getElem?_eq_some_iff.1 (show ((List.range len).map fun i => ((Value.slice (A i) (L i) (C i)), ((Z i).take (L i)).map fun z => UInt8.ofNat z.toNat))[i]? = some x by rw [List.getElem?_map]; exact hx)).1
        simpa using this
      simp [hi] at hx
      subst hx
      have := (hr i (by omega)).1
      rwa [Go.WideShapes.add_plain] at this
    · obtain ⟨i, hi, rfl⟩ := List.mem_map.1 hx
      have hi' : i < len := by simpa using hi
      obtain ⟨_, h1, h2, h3, h4, h5, h6⟩ := hr i (by omega)
      have hll : (((Z i).take (L i)).map fun z => UInt8.ofNat z.toNat).length = L i := by simp; omega
      refine ⟨A i, C i, by rw [hll], by rw [hll]; exact h1, h2, fun h0 => ?_⟩
      rw [hll] at h0
      cases hA : A i with
      | none => have := h5 hA; omega
      | some a' =>
        obtain ⟨_, h7⟩ := h6 a' hA
        obtain ⟨b, off, spot⟩ := a'
        have hspot : spot = none := by simpa [Addr.add] using World.cell?_spot (h7 0 (by omega))
        subst hspot
        refine ⟨b, off, rfl, by simp, fun j hj => ?_⟩
        rw [hll] at hj
        have hc := h7 j (by omega)
        rw [Go.WideShapes.add_plain] at hc
        rw [hc]
        have hzj : (Z i)[j]? = some (Z i)[j] := List.getElem?_eq_getElem (by omega)
        have hb := bounds_u8 (h4 (Z i)[j] (List.getElem_mem (by omega)))
        have e1 : bAt (((Z i).take (L i)).map fun z => UInt8.ofNat z.toNat) j = UInt8.ofNat (Z i)[j].toNat := by simp [bAt, hj, hzj]
        rw [e1]
        unfold bN
        rw [UInt8.toNat_ofNat']
        simp [List.getD, hzj]
        omega
    · obtain ⟨i, hi, rfl⟩ := List.mem_map.1 hlm
      have hi' : i < len := by simpa using hi
      rw [List.length_map, hlenl i hi']
      obtain ⟨_, h1, _, h3, _, h5, _⟩ := hr i (by omega)
      cases hA : A i with
      | none => have := h5 hA; omega
      | some a' =>
        have hmem : (Go.Deep.intRow (H := H) .u8 (A i) (L i) (Z i)) ∈ (List.range len).map fun r => Go.Deep.intRow (H := H) .u8 (A r) (L r) (Z r) := List.mem_map.2 ⟨i, hi, rfl⟩
        have hwt := hw ((((lits (H := H) .u8 ((Z i).take (L i))).length + (lits (H := H) .u8 ((Z i).drop (L i))).length)) * Tryd.prog.bytesOf 5) (by
          rw [hd]
          simp only [DataW.weights, Tryd.underlying41, List.mem_cons, List.mem_append]
          refine Or.inr (Or.inl (weights_all_mem hmem _ ?_))
          simp only [Go.Deep.intRow, hA, DataW.weights, Tryd.underlying24, List.mem_cons]
          exact Or.inl trivial)
        rw [bytes1] at hwt
        have hr1 : reachBytes = 140737488351232 := rfl
        simp [lits] at hwt
        omega
theorem cellsI : Tryd.prog.cellsOf 3 = 1 := by kernel_rfl
/-- A slice of numbers that came in reads as a list. -/
theorem open_ints_slice {H : Type} {enc : TypeId × Value → H} {w : World} {base : Nat} {spare : Nat → Bool} {held : Bool} {v : Value} {d : DataW H} {p : List MemPlace} {r : Reach} {b0 : Nat}
    (hv : Value.okWide Tryd.prog w r b0 47 v) (h : DataW.Trod enc Tryd.prog w base spare held 47 v d p) : ∃ is : List Int, RdI w v is := by
  obtain ⟨a0, len, cap, rfl⟩ := okWide_slice Tryd.underlying47 hv
  obtain ⟨fuel, hf⟩ := h
  rcases open_ints Tryd.underlying47 Tryd.underlying3 cellsI hf with ⟨hcs, _⟩ | ⟨a, len', cap', zs, hcs, _, hl, hm, hz, _, hcell, hwz⟩
  · simp [Value.cells] at hcs
    obtain ⟨rfl, rfl, rfl⟩ := hcs
    exact ⟨[], none, 0, rfl, by simp, by unfold maxLen; omega, fun h0 => absurd h0 (by simp)⟩
  · simp [Value.cells] at hcs
    obtain ⟨rfl, rfl, rfl⟩ := hcs
    have hlz : len ≤ zs.length := by rw [hz]; split <;> omega
    have hlen : (zs.take len).length = len := by simp; omega
    refine ⟨zs.take len, some a, cap, by rw [hlen], by rw [hlen]; exact hl, hm, fun h0 => ?_⟩
    rw [hlen] at h0
    obtain ⟨b, off, rfl, hc⟩ := ints_at hcell (by omega)
    refine ⟨b, off, rfl, fun i hi => ?_⟩
    rw [hlen] at hi
    rw [hc i (by omega)]
    simp [List.getD, hi]
end Go.Proofs.YtpoebajpmkcjdaaDoor
