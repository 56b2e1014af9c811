/- Layer 2's statements' own functions and the reference's: great; with (a key's mask). -/
import Derived.Test.YtpoebajpmkcjdaaDoorM6
import Derived.Test.YtpoebajpmkcjdaaDoorM2
namespace Go.Proofs.YtpoebajpmkcjdaaDoor
open Go Go.RowKit

/-- How much a list of parts is, as 'great' counts. -/
def gsum (ls : List (List UInt8)) : Nat := (ls.map fun l => 1 + l.length).sum
theorem gsum_take (ls : List (List UInt8)) (k : Nat) : gsum (ls.take k) ≤ gsum ls := by
  have h := congrArg gsum (List.take_append_drop k ls)
  have e : gsum (ls.take k ++ ls.drop k) = gsum (ls.take k) + gsum (ls.drop k) := by unfold gsum; rw [List.map_append, List.sum_append]
  omega
theorem gsum_bounds (ls : List (List UInt8)) : ls.length + ls.flatten.length = gsum ls := by
  unfold gsum
  induction ls with
  | nil => rfl
  | cons x ls ih => simp at ih ⊢; omega
def GreatPost (ls : List (List UInt8)) (w : World) (e : Ending) (w' : World) : Prop := ∃ b, e = .returned (.bool b) ∧ (b = false → gsum ls ≤ 1000) ∧ w = w'
set_option maxHeartbeats 1000000 in
theorem great_any (pv : Value) (ls : List (List UInt8)) (w : World) (hp : Parts w pv ls) (hl : ∀ l ∈ ls, l.length ≤ 140737488351232) : Calls Tryd.prog 26 #[pv] w (GreatPost ls w) := by
  obtain ⟨ps, hps, rfl⟩ := hp
  obtain ⟨A, cap, rfl, hpc, hpm, hA, hR⟩ := hps
  unfold maxLen at hpm
  obtain ⟨n, hn⟩ : ∃ n, n = ps.length := ⟨_, rfl⟩
  rw [← hn] at hpc
  have Hn := Lib.hid hn
  have HA := Lib.hid (show 0 < n → ∃ b o, A = some ⟨b, o, none⟩ ∧ ∀ i x, ps[i]? = some x → w.cell? ⟨b, o + i, none⟩ = some x.1 from fun h => by
    obtain ⟨b, o, h1, _, h2⟩ := hA (by omega)
    exact ⟨b, o, h1, h2⟩)
  have HR := Lib.hid hR
  have HL := Lib.hid hl
  rw [← hn]
  clear hA hR hn hl
  go_enter Tryd.func26, Tryd.ntmps26
  go_wp2
  go_loop [3, 4] (fun s i => ∃ k : Nat, k ≤ n ∧ i = .int .i64 k ∧ s = .int .i64 (gsum ((ps.map (·.2)).take k) : Nat) ∧ gsum ((ps.map (·.2)).take k) ≤ 1000) (fun _ i => n - (intOf i).toNat)
  case atStart => exact ⟨0, by omega, rfl, rfl, by simp [gsum]⟩
  case round =>
    obtain ⟨k, hk, rfl, rfl, hs⟩ := hrel
    by_cases hlt : k < n
    · obtain ⟨b, o, rfl, hcells⟩ := HA.out (by omega)
      have hx : ps[k]? = some ps[k] := List.getElem?_eq_getElem (by rw [← Hn.out]; exact hlt)
      generalize hxx : ps[k] = x at hx
      have hcell := hcells k x hx
      have hxl := HL.out x.2 (List.mem_map.2 ⟨x, List.mem_of_getElem? hx, rfl⟩)
      obtain ⟨A', c', hv', hlc, hcm, _⟩ := HR.out x (List.mem_of_getElem? hx)
      rw [hv'] at hcell
      have Hg : Hid (gsum ((ps.map (·.2)).take (k + 1)) = gsum ((ps.map (·.2)).take k) + (1 + x.2.length)) := Lib.hid (by
        rw [List.take_add_one, List.getElem?_map, hx]
        simp [gsum])
      generalize gsum ((ps.map (·.2)).take k) = s at hs Hg
      clear hv' hxx hx hcells
      by_cases hgt : 1000 < s + (1 + x.2.length)
      · have ht : decide ((1000 : Int) < (s : Int) + 1 + (x.2.length : Int)) = true := by simp; omega
        go_wp2
        go_ret
        exact ⟨true, rfl, (fun h => by cases h), rfl⟩
      · have ht : decide ((1000 : Int) < (s : Int) + 1 + (x.2.length : Int)) = false := by simp; omega
        go_wp2
        go_round
        case rel => exact ⟨k + 1, by omega, by go_num, by rw [Hg.out]; go_num, by rw [Hg.out]; omega⟩
        case measure => simp [intOf]; omega
    · obtain rfl : k = n := by omega
      go_wp2
      go_ret
      refine ⟨false, rfl, fun _ => ?_, rfl⟩
      rw [Hn.out] at hs
      rwa [List.take_of_length_le (by simp)] at hs
/-- A row of bytes of a call's own, from W on. -/
def svOwn (W : World) (l : List UInt8) : SV NewT := ⟨fun v w => w.ownsRow W.heap.size 5 1 v l.length (l.map fun b => .int .u8 (bN b)), fun v w w' h hT => by
  obtain ⟨a, b⟩ := h
  refine ⟨a, ?_⟩
  rcases b with b | ⟨g, cap, cur, rfl, hb, hg, r⟩
  · exact .inl b
  · have hlt : g < w.heap.size := by
      rcases Nat.lt_or_ge g w.heap.size with h | h
      · exact h
      · rw [Array.getElem?_eq_none h] at hg; cases hg
    exact .inr ⟨g, cap, cur, rfl, hb, (hT.out.block g hlt).trans hg, r⟩⟩
theorem xor_low (x m : UInt8) (hm : m = 54 ∨ m = 92) : IntKind.u8.wrap (bits .xor .i64 (bN x) (bN m)) = bN (x ^^^ m) := by
  have h1 : ∀ n : Fin 256, IntKind.u8.wrap (bits .xor .i64 (bN (UInt8.ofNat n.val)) (bN 54)) = bN (UInt8.ofNat n.val ^^^ 54) := by decide +kernel
  have h2 : ∀ n : Fin 256, IntKind.u8.wrap (bits .xor .i64 (bN (UInt8.ofNat n.val)) (bN 92)) = bN (UInt8.ofNat n.val ^^^ 92) := by decide +kernel
  have e : UInt8.ofNat x.toNat = x := by simp
  rcases hm with rfl | rfl
  · have := h1 ⟨x.toNat, x.toNat_lt⟩; rwa [e] at this
  · have := h2 ⟨x.toNat, x.toNat_lt⟩; rwa [e] at this
theorem bN_wrap (x : UInt8) : IntKind.i64.wrap (bN x) = bN x := by
  have := bN_lt x
  simp [IntKind.wrap, IntKind.bits, IntKind.signed]; omega
set_option maxHeartbeats 1000000 in
theorem with_any (A : Option Addr) (n c : Nat) (l : List UInt8) (m : UInt8) (hm : m = 54 ∨ m = 92) (w : World) (hr : RdV w [] (.slice A n c) l) :
    Cv 46 #[.slice A n c, .int .i64 (bN m)] w (svOwn w (maskL (bAt l) m)) := by
  unfold Cv
  have hn : l.length = n := by obtain ⟨_, _, hv, _⟩ := hr; cases hv; rfl
  subst hn
  obtain ⟨A', c', hv, hlc, hcm, hcell⟩ := hr
  cases hv
  unfold maxLen at hcm
  have HC := Lib.hid hcell
  have HX := Lib.hid (fun x => xor_low x m hm)
  have HW := Lib.hid bN_wrap
  have hmb := bN_lt m
  generalize hM : bN m = M at hmb
  have HM := Lib.hid hM
  clear hcell hM hm
  obtain ⟨i0, hi, hz0, hz1, hz2⟩ := info_parts info5
  go_enter Tryd.func46, Tryd.ntmps46
  go_wp2
  go_loopw [5, 6] (fun v i wr => ∃ k : Nat, k ≤ 64 ∧ i = .int .i64 k ∧ wr.ownsRow w.heap.size 5 1 v k ((List.range k).map (bF fun i => bAt l i ^^^ m)) ∧ Below w.heap.size w wr) (fun _ i _ => 64 - (intOf i).toNat)
  case atStart => exact ⟨0, by omega, rfl, World.ownsRow_nil _ _ _ _, Below.refl _ _⟩
  case round =>
    obtain ⟨k, hk, rfl, hown, qB⟩ := hrel
    by_cases hlt : k < 64
    · by_cases hkl : k < l.length
      · obtain ⟨b, o, rfl, _, hc⟩ := HC.out (by omega)
        have hcl := (qB.cell (p := ⟨b, o + k, none⟩) (World.block_lt_of_cell? _ _ (hc k hkl))).trans (hc k hkl)
        have hx := HX.out (bAt l k)
        rw [HM.out] at hx
        have hwr := HW.out (bAt l k)
        have hbk := bN_lt (bAt l k)
        go_wp2_with (at_builtin; refine wpList_append_own _ rfl (.tmp 21) (.tmp 26) 24 rfl w.heap.size 5 i0 _ 1 1 Tryd.underlying24 hi hz0 hz1 hz2 rfl (by omega) u5 k _ rfl (hown.alloc _) ⟨wr.heap.size, 0, none⟩ 1 1 [bF (fun i => bAt l i ^^^ m) k] rfl rfl (one_cell _ _ _) (by simp [bF, Value.oneCell']) (by unfold maxLen; omega) (by omega) (by have := qB.size; simp; omega) ?_; intro v' w1 hown' hg1 _)
        go_roundw
        case rel =>
          refine ⟨k + 1, by omega, by go_num, ?_, (qB.alloc qB.size _).grown hg1 (by have := qB.size; simp; omega) (fun g e => (hown.lt g e).1)⟩
          rw [List.range_succ, List.map_append]
          exact hown'
        case measure => simp [intOf]; omega
      · have hz : bAt l k = 0 := by simp [bAt, hkl]
        have hx := HX.out 0
        rw [HM.out] at hx
        have hx0 : IntKind.u8.wrap (bits .xor .i64 0 M) = bN (bAt l k ^^^ m) := by rw [hz]; exact hx
        clear hx hz
        go_wp2_with (at_builtin; refine wpList_append_own _ rfl (.tmp 21) (.tmp 26) 24 rfl w.heap.size 5 i0 _ 1 1 Tryd.underlying24 hi hz0 hz1 hz2 rfl (by omega) u5 k _ rfl (hown.alloc _) ⟨wr.heap.size, 0, none⟩ 1 1 [bF (fun i => bAt l i ^^^ m) k] rfl rfl (one_cell _ _ _) (by simp [bF, Value.oneCell']) (by unfold maxLen; omega) (by omega) (by have := qB.size; simp; omega) ?_; intro v' w1 hown' hg1 _)
        go_roundw
        case rel =>
          refine ⟨k + 1, by omega, by go_num, ?_, (qB.alloc qB.size _).grown hg1 (by have := qB.size; simp; omega) (fun g e => (hown.lt g e).1)⟩
          rw [List.range_succ, List.map_append]
          exact hown'
        case measure => simp [intOf]; omega
    · obtain rfl : k = 64 := by omega
      go_wp2
      go_ret
      refine ⟨_, rfl, qB, ?_⟩
      have e : (maskL (bAt l) m).map (fun b => Value.int .u8 (bN b)) = (List.range 64).map (bF fun i => bAt l i ^^^ m) := by
        unfold maskL; rw [List.map_map]; rfl
      show wr.ownsRow w.heap.size 5 1 _ (maskL (bAt l) m).length _
      rw [maskL_length, e]
      exact hown
end Go.Proofs.YtpoebajpmkcjdaaDoor
