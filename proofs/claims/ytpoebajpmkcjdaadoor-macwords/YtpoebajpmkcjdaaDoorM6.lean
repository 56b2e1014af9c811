/- Package mac: texts put together of pieces, one behind the other: what each call returns reads as those pieces. -/
import Derived.Test.YtpoebajpmkcjdaaDoorM5
namespace Go.Proofs.YtpoebajpmkcjdaaDoor
open Go Go.RowKit

/-- A slice of numbers reads as is. -/
def RdI (W : World) (v : Value) (is : List Int) : Prop :=
  ∃ A cap, v = .slice A is.length cap ∧ is.length ≤ cap ∧ cap ≤ maxLen ∧ (0 < is.length → ∃ b o, A = some ⟨b, o, none⟩ ∧ ∀ i, i < is.length → W.cell? ⟨b, o + i, none⟩ = some (.int .i64 (is.getD i 0)))
theorem NewT.ints {w w' : World} (h : NewT w w') {v : Value} {is : List Int} (hr : RdI w v is) : RdI w' v is := by
  obtain ⟨A, cap, hv, h1, h2, h3⟩ := hr
  refine ⟨A, cap, hv, h1, h2, fun h0 => ?_⟩
  obtain ⟨b, o, hA, hc⟩ := h3 h0
  refine ⟨b, o, hA, fun i hi => (h.out.cell (p := ⟨b, o + i, none⟩) (World.block_lt_of_cell? _ _ (hc i hi))).trans (hc i hi)⟩
def svInts (is : List Int) : SV NewT := ⟨fun v w => RdI w v is, fun _ _ _ h hT => hT.ints h⟩
/-- A part behind its length. -/
def cntP (l : List UInt8) : List (List UInt8) := [hiL l.length 4, l]
theorem cnt_length (ls : List (List UInt8)) : (ls.flatMap cntP).length = 2 * ls.length := by
  induction ls with
  | nil => rfl
  | cons x ls ih => simp [cntP] at ih ⊢; omega
theorem pcs_one {w : World} {A : Option Addr} {n c : Nat} {l : List UInt8} (h : RdV w [] (.slice A n c) l) : Pcs (w.alloc (.cells #[.slice A n c] 24)) w.heap.size (.slice (some ⟨w.heap.size, 0, none⟩) 1 1) [l] := by
  refine ⟨[(.slice A n c, l)], rfl, ⟨rfl, .inr ⟨w.heap.size, 1, #[.slice A n c], rfl, Nat.le_refl _, World.alloc_heap_new _ _, Nat.le_refl _, by unfold maxLen; omega, rfl, rfl⟩⟩, fun x hx => ?_⟩
  simp at hx
  subst hx
  refine (NewT.alloc w _).rd (h.more fun k hk _ hm => ?_)
  simp [Value.ownBlock] at hm
  omega
/-- What lay there reads on beside the call's own row. -/
theorem rd_beside {w wr : World} {v u : Value} {ls : List (List UInt8)} {l : List UInt8} (h : RdV w [] u l) (hp : Pcs wr w.heap.size v ls) (hB : Below w.heap.size w wr) : RdV wr v.ownBlock.toList u l :=
  (h.more fun k hk _ hm => by have := (hp.own_lt k (by simpa using hm)).2; omega).keep (KeepBut.below hB)
set_option maxHeartbeats 1000000 in
theorem text_plain (v0 pv : Value) (l0 : List UInt8) (ls : List (List UInt8)) (w : World) (h0 : RdV w [] v0 l0) (hp : Parts w pv ls) (hlen : ls.length ≤ 100000) :
    Cv 43 #[v0, .func (.func 45) #[] #[], pv] w (svParts (l0 :: ls)) := by
  unfold Cv
  obtain ⟨A0, c0, rfl, h00⟩ := h0
  have H0 : Hid (RdV w [] (.slice A0 l0.length c0) l0) := Lib.hid ⟨A0, c0, rfl, h00⟩
  clear h00
  obtain ⟨ps, hps, rfl⟩ := hp
  obtain ⟨A, cap, rfl, hpc, hpm, hA, hR⟩ := hps
  unfold maxLen at hpm
  obtain ⟨n, hn⟩ : ∃ n, n = ps.length := ⟨_, rfl⟩
  rw [← hn] at hpc
  have Hn : Hid (n = (ps.map (·.2)).length) := Lib.hid (by simpa using hn)
  have hlen' : n ≤ 100000 := by rw [Hn.out]; exact hlen
  have HA := Lib.hid (show 0 < n → ∃ b o, A = some ⟨b, o, none⟩ ∧ ∀ i x, ps[i]? = some x → w.cell? ⟨b, o + i, none⟩ = some x.1 from fun h => by
    obtain ⟨b, o, h1, _, h2⟩ := hA (by omega)
    exact ⟨b, o, h1, h2⟩)
  have HR := Lib.hid hR
  rw [← hn]
  have Hps := Lib.hid hn
  clear hA hR hn hlen
  go_enter Tryd.func43, Tryd.ntmps43
  go_wp2
  have p0 := pcs_one H0.out
  have hB : Below w.heap.size w (w.alloc (.cells #[.slice A0 l0.length c0] 24)) := (Below.refl _ w).alloc (Nat.le_refl _) _
  generalize w.alloc (.cells #[.slice A0 l0.length c0] 24) = W0 at p0 hB ⊢
  go_loopw [7, 14] (fun v i wr => ∃ k : Nat, k ≤ n ∧ i = .int .i64 k ∧ Pcs wr w.heap.size v (l0 :: (ps.map (·.2)).take k) ∧ Below w.heap.size w wr) (fun _ i _ => n - (intOf i).toNat)
  case atStart => exact ⟨0, by omega, rfl, by simpa using p0, hB⟩
  case round =>
    obtain ⟨k, hk, rfl, hp, qB⟩ := hrel
    clear p0 hB
    by_cases hlt : k < n
    · obtain ⟨b, o, rfl, hcells⟩ := HA.out (by omega)
      have hx : ps[k]? = some ps[k] := List.getElem?_eq_getElem (by rw [← Hps.out]; exact hlt)
      generalize hxx : ps[k] = x at hx
      have hcell := (qB.cell (p := ⟨b, o + k, none⟩) (World.block_lt_of_cell? _ _ (hcells k x hx))).trans (hcells k x hx)
      have hrd := rd_beside (HR.out x (List.mem_of_getElem? hx)) hp qB
      have hll : (l0 :: (ps.map (·.2)).take k).length ≤ 900000 := by
        simp; omega
      have Hext : Hid ((ps.map (·.2)).take (k + 1) = (ps.map (·.2)).take k ++ [x.2]) := Lib.hid (by
        rw [List.take_add_one, List.getElem?_map, hx]; simp)
      obtain ⟨A', c', hv', hr0⟩ := hrd
      have Hrd : Hid (RdV wr (Value.ownBlock u7).toList (.slice A' x.2.length c') x.2) := Lib.hid ⟨A', c', rfl, hr0⟩
      rw [hv'] at hcell
      have Hp := Lib.hid hp
      clear hr0 hv' hx hxx hcells hp
      go_wp2_with (go_at_call 45; refine (plainPart_any _ _ _ _ x.2 _ Hp.out qB.size Hrd.out hll).mono ?_; rintro e w2 ⟨v', rfl, hp2, hB2⟩)
      go_roundw
      case rel =>
        refine ⟨k + 1, by omega, by go_num, ?_, qB.trans hB2⟩
        have e := Hext.out
        rw [e]
        simpa using hp2
      case measure => simp [intOf]; omega
    · obtain rfl : k = n := by omega
      go_wp2
      go_ret
      refine ⟨_, rfl, qB, ?_⟩
      have := hp.parts
      rw [Hn.out, List.take_length] at this
      exact this
set_option maxHeartbeats 1000000 in
theorem text_counted (v0 pv : Value) (l0 : List UInt8) (ls : List (List UInt8)) (w : World) (h0 : RdV w [] v0 l0) (hp : Parts w pv ls) (hlen : ls.length ≤ 100000) :
    Cv 43 #[v0, .func (.func 49) #[] #[], pv] w (svParts (l0 :: (ls).flatMap cntP)) := by
  unfold Cv
  obtain ⟨A0, c0, rfl, h00⟩ := h0
  have H0 : Hid (RdV w [] (.slice A0 l0.length c0) l0) := Lib.hid ⟨A0, c0, rfl, h00⟩
  clear h00
  obtain ⟨ps, hps, rfl⟩ := hp
  obtain ⟨A, cap, rfl, hpc, hpm, hA, hR⟩ := hps
  unfold maxLen at hpm
  obtain ⟨n, hn⟩ : ∃ n, n = ps.length := ⟨_, rfl⟩
  rw [← hn] at hpc
  have Hn : Hid (n = (ps.map (·.2)).length) := Lib.hid (by simpa using hn)
  have hlen' : n ≤ 100000 := by rw [Hn.out]; exact hlen
  have HA := Lib.hid (show 0 < n → ∃ b o, A = some ⟨b, o, none⟩ ∧ ∀ i x, ps[i]? = some x → w.cell? ⟨b, o + i, none⟩ = some x.1 from fun h => by
    obtain ⟨b, o, h1, _, h2⟩ := hA (by omega)
    exact ⟨b, o, h1, h2⟩)
  have HR := Lib.hid hR
  rw [← hn]
  have Hps := Lib.hid hn
  clear hA hR hn hlen
  go_enter Tryd.func43, Tryd.ntmps43
  go_wp2
  have p0 := pcs_one H0.out
  have hB : Below w.heap.size w (w.alloc (.cells #[.slice A0 l0.length c0] 24)) := (Below.refl _ w).alloc (Nat.le_refl _) _
  generalize w.alloc (.cells #[.slice A0 l0.length c0] 24) = W0 at p0 hB ⊢
  go_loopw [7, 14] (fun v i wr => ∃ k : Nat, k ≤ n ∧ i = .int .i64 k ∧ Pcs wr w.heap.size v (l0 :: ((ps.map (·.2)).take k).flatMap cntP) ∧ Below w.heap.size w wr) (fun _ i _ => n - (intOf i).toNat)
  case atStart => exact ⟨0, by omega, rfl, by simpa using p0, hB⟩
  case round =>
    obtain ⟨k, hk, rfl, hp, qB⟩ := hrel
    clear p0 hB
    by_cases hlt : k < n
    · obtain ⟨b, o, rfl, hcells⟩ := HA.out (by omega)
      have hx : ps[k]? = some ps[k] := List.getElem?_eq_getElem (by rw [← Hps.out]; exact hlt)
      generalize hxx : ps[k] = x at hx
      have hcell := (qB.cell (p := ⟨b, o + k, none⟩) (World.block_lt_of_cell? _ _ (hcells k x hx))).trans (hcells k x hx)
      have hrd := rd_beside (HR.out x (List.mem_of_getElem? hx)) hp qB
      have hll : (l0 :: ((ps.map (·.2)).take k).flatMap cntP).length ≤ 900000 := by
        rw [List.length_cons, cnt_length, List.length_take]; omega
      have Hext : Hid (((ps.map (·.2)).take (k + 1)).flatMap cntP = ((ps.map (·.2)).take k).flatMap cntP ++ [hiL x.2.length 4, x.2]) := Lib.hid (by
        rw [List.take_add_one, List.getElem?_map, hx]; simp [cntP])
      obtain ⟨A', c', hv', hr0⟩ := hrd
      have Hrd : Hid (RdV wr (Value.ownBlock u7).toList (.slice A' x.2.length c') x.2) := Lib.hid ⟨A', c', rfl, hr0⟩
      rw [hv'] at hcell
      have Hp := Lib.hid hp
      clear hr0 hv' hx hxx hcells hp
      go_wp2_with (go_at_call 49; refine (countedPart_any _ _ _ _ x.2 _ Hp.out qB.size Hrd.out hll).mono ?_; rintro e w2 ⟨v', rfl, hp2, hB2⟩)
      go_roundw
      case rel =>
        refine ⟨k + 1, by omega, by go_num, ?_, qB.trans hB2⟩
        have e := Hext.out
        rw [e]
        simpa using hp2
      case measure => simp [intOf]; omega
    · obtain rfl : k = n := by omega
      go_wp2
      go_ret
      refine ⟨_, rfl, qB, ?_⟩
      have := hp.parts
      rw [Hn.out, List.take_length] at this
      exact this
set_option maxHeartbeats 1000000 in
theorem text_words (v0 pv : Value) (l0 : List UInt8) (is : List Int) (w : World) (h0 : RdV w [] v0 l0) (hp : RdI w pv is) (hlen : is.length ≤ 100000) :
    Cv 50 #[v0, .func (.func 51) #[] #[], pv] w (svParts (l0 :: (is).map fun n => hiL (wN n) 8)) := by
  unfold Cv
  obtain ⟨A0, c0, rfl, h00⟩ := h0
  have H0 : Hid (RdV w [] (.slice A0 l0.length c0) l0) := Lib.hid ⟨A0, c0, rfl, h00⟩
  clear h00
  obtain ⟨A, cap, rfl, hpc, hpm, hA⟩ := hp
  unfold maxLen at hpm
  obtain ⟨n, hn⟩ : ∃ n, n = is.length := ⟨_, rfl⟩
  rw [← hn] at hpc
  have Hn : Hid (n = is.length) := Lib.hid hn
  have hlen' : n ≤ 100000 := by rw [Hn.out]; exact hlen
  have HA := Lib.hid (show 0 < n → ∃ b o, A = some ⟨b, o, none⟩ ∧ ∀ i, i < n → w.cell? ⟨b, o + i, none⟩ = some (.int .i64 (is.getD i 0)) from fun h => by
    obtain ⟨b, o, h1, h2⟩ := hA (by omega)
    exact ⟨b, o, h1, fun i hi => h2 i (by omega)⟩)
  rw [← hn]
  clear hA hn hlen
  go_enter Tryd.func50, Tryd.ntmps50
  go_wp2
  have p0 := pcs_one H0.out
  have hB : Below w.heap.size w (w.alloc (.cells #[.slice A0 l0.length c0] 24)) := (Below.refl _ w).alloc (Nat.le_refl _) _
  generalize w.alloc (.cells #[.slice A0 l0.length c0] 24) = W0 at p0 hB ⊢
  go_loopw [7, 14] (fun v i wr => ∃ k : Nat, k ≤ n ∧ i = .int .i64 k ∧ Pcs wr w.heap.size v (l0 :: (is.take k).map fun n => hiL (wN n) 8) ∧ Below w.heap.size w wr) (fun _ i _ => n - (intOf i).toNat)
  case atStart => exact ⟨0, by omega, rfl, by simpa using p0, hB⟩
  case round =>
    obtain ⟨k, hk, rfl, hp, qB⟩ := hrel
    clear p0 hB
    by_cases hlt : k < n
    · obtain ⟨b, o, rfl, hcells⟩ := HA.out (by omega)
      have hcell := (qB.cell (p := ⟨b, o + k, none⟩) (World.block_lt_of_cell? _ _ (hcells k hlt))).trans (hcells k hlt)
      generalize hxx : is.getD k 0 = x at hcell
      have hll : (l0 :: (is.take k).map fun n => hiL (wN n) 8).length ≤ 900000 := by
        simp; omega
      have Hext : Hid ((is.take (k + 1)).map (fun n => hiL (wN n) 8) = (is.take k).map (fun n => hiL (wN n) 8) ++ [hiL (wN x) 8]) := Lib.hid (by
        rw [List.take_add_one, List.getElem?_eq_getElem (by rw [← Hn.out]; exact hlt)]
        have : is[k]'(by rw [← Hn.out]; exact hlt) = x := by rw [← hxx]; simp [List.getD, show k < is.length by rw [← Hn.out]; exact hlt]
        simp [this])
      have Hp := Lib.hid hp
      clear hxx hcells hp
      go_wp2_with (go_at_call 51; refine (wordPart_any _ x _ _ _ Hp.out qB.size hll).mono ?_; rintro e w2 ⟨v', rfl, hp2, hB2⟩)
      go_roundw
      case rel =>
        refine ⟨k + 1, by omega, by go_num, ?_, qB.trans hB2⟩
        have e := Hext.out
        rw [e]
        simpa using hp2
      case measure => simp [intOf]; omega
    · obtain rfl : k = n := by omega
      go_wp2
      go_ret
      refine ⟨_, rfl, qB, ?_⟩
      have := hp.parts
      rw [Hn.out, List.take_length] at this
      exact this
end Go.Proofs.YtpoebajpmkcjdaaDoor
