/- Package rec: Same; the reference's Same. -/
import Derived.Test.YthgblcpekhiphaaDoorMc
namespace Go.Proofs.YthgblcpekhiphaaDoor
open Go Go.RowKit
set_option maxRecDepth 8000
set_option maxHeartbeats 2000000 in
theorem Same_cv (v1 v2 : Value) (x y : Rc) (w : World) (h1 : RecV w v1 x) (h2 : RecV w v2 y) : Cv 18 #[v1, v2] w (.eq (.bool (sameB x y))) := by
  obtain ⟨sv, dv, rfl, hs, hd⟩ := h1
  obtain ⟨su, du, rfl, hu, he⟩ := h2
  unfold Cv
  go_enter Tryd.func18, Tryd.ntmps18
  go_upto_region 1 with fail
  have r1 := (rowIs_box w 27 109 (recF x sv dv)).alloc (.cells (rowA 109 (recF y su du)) 27)
  have r2 := rowIs_box (w.alloc (.cells (rowA 109 (recF x sv dv)) 27)) 27 109 (recF y su du)
  have hN : NewT w ((w.alloc (.cells (rowA 109 (recF x sv dv)) 27)).alloc (.cells (rowA 109 (recF y su du)) 27)) := NewT.trans _ _ _ (NewT.alloc _ _) (NewT.alloc _ _)
  rw [World.size_alloc] at r2
  change Code.wp _ _ _ _ ((w.alloc (.cells (rowA 109 (recF x sv dv)) 27)).alloc (.cells (rowA 109 (recF y su du)) 27))
  generalize (w.alloc (.cells (rowA 109 (recF x sv dv)) 27)).alloc (.cells (rowA 109 (recF y su du)) 27) = W0 at r1 r2 hN ⊢
  have HS := Lib.hid (hN.pairs hs)
  have HD := Lib.hid (hN.rd hd)
  have HU := Lib.hid (hN.pairs hu)
  have HE := Lib.hid (hN.rd he)
  have R1 := Lib.hid r1
  have R2 := Lib.hid r2
  have HN := Lib.hid hN
  clear hs hd hu he r1 r2 hN
  refine wp_region_steps (NewT) (fun _ _ => True) [SV.eq (.pointer (some ⟨w.heap.size, 0, none⟩)), SV.eq (.int .i64 (x.kind)), SV.eq (.pointer (some ⟨w.heap.size + 1, 0, none⟩)), SV.eq (.int .i64 (y.kind)), SV.eq (.bool (x.kind == y.kind)), SV.eq (.bool (x.kind == y.kind)), svIf (x.kind == y.kind) (SV.eq (.pointer (some ⟨w.heap.size, 1, none⟩))), svIf (x.kind == y.kind) (SV.eq (.int .i64 (x.saga))), svIf (x.kind == y.kind) (SV.eq (.pointer (some ⟨w.heap.size + 1, 1, none⟩))), svIf (x.kind == y.kind) (SV.eq (.int .i64 (y.saga))), svIf (x.kind == y.kind) (SV.eq (.bool (x.saga == y.saga))), SV.eq (.bool ((x.kind == y.kind) && (x.saga == y.saga))), SV.eq (.bool ((x.kind == y.kind) && (x.saga == y.saga))), svIf ((x.kind == y.kind) && (x.saga == y.saga)) (SV.eq (.pointer (some ⟨w.heap.size, 2, none⟩))), svIf ((x.kind == y.kind) && (x.saga == y.saga)) (SV.eq (.int .i64 (x.seq))), svIf ((x.kind == y.kind) && (x.saga == y.saga)) (SV.eq (.pointer (some ⟨w.heap.size + 1, 2, none⟩))), svIf ((x.kind == y.kind) && (x.saga == y.saga)) (SV.eq (.int .i64 (y.seq))), svIf ((x.kind == y.kind) && (x.saga == y.saga)) (SV.eq (.bool (x.seq == y.seq))), SV.eq (.bool (((x.kind == y.kind) && (x.saga == y.saga)) && (x.seq == y.seq))), SV.eq (.bool (((x.kind == y.kind) && (x.saga == y.saga)) && (x.seq == y.seq))), svIf (((x.kind == y.kind) && (x.saga == y.saga)) && (x.seq == y.seq)) (SV.eq (.pointer (some ⟨w.heap.size, 3, none⟩))), svIf (((x.kind == y.kind) && (x.saga == y.saga)) && (x.seq == y.seq)) (SV.eq (.int .i64 (x.step))), svIf (((x.kind == y.kind) && (x.saga == y.saga)) && (x.seq == y.seq)) (SV.eq (.pointer (some ⟨w.heap.size + 1, 3, none⟩))), svIf (((x.kind == y.kind) && (x.saga == y.saga)) && (x.seq == y.seq)) (SV.eq (.int .i64 (y.step))), svIf (((x.kind == y.kind) && (x.saga == y.saga)) && (x.seq == y.seq)) (SV.eq (.bool (x.step == y.step))), SV.eq (.bool ((((x.kind == y.kind) && (x.saga == y.saga)) && (x.seq == y.seq)) && (x.step == y.step))), SV.eq (.bool ((((x.kind == y.kind) && (x.saga == y.saga)) && (x.seq == y.seq)) && (x.step == y.step))), svIf ((((x.kind == y.kind) && (x.saga == y.saga)) && (x.seq == y.seq)) && (x.step == y.step)) (SV.eq (.pointer (some ⟨w.heap.size, 4, none⟩))), svIf ((((x.kind == y.kind) && (x.saga == y.saga)) && (x.seq == y.seq)) && (x.step == y.step)) (SV.eq (.int .i64 (x.tr))), svIf ((((x.kind == y.kind) && (x.saga == y.saga)) && (x.seq == y.seq)) && (x.step == y.step)) (SV.eq (.pointer (some ⟨w.heap.size + 1, 4, none⟩))), svIf ((((x.kind == y.kind) && (x.saga == y.saga)) && (x.seq == y.seq)) && (x.step == y.step)) (SV.eq (.int .i64 (y.tr))), svIf ((((x.kind == y.kind) && (x.saga == y.saga)) && (x.seq == y.seq)) && (x.step == y.step)) (SV.eq (.bool (x.tr == y.tr))), SV.eq (.bool (((((x.kind == y.kind) && (x.saga == y.saga)) && (x.seq == y.seq)) && (x.step == y.step)) && (x.tr == y.tr))), SV.eq (.bool (((((x.kind == y.kind) && (x.saga == y.saga)) && (x.seq == y.seq)) && (x.step == y.step)) && (x.tr == y.tr))), svIf (((((x.kind == y.kind) && (x.saga == y.saga)) && (x.seq == y.seq)) && (x.step == y.step)) && (x.tr == y.tr)) (SV.eq (.pointer (some ⟨w.heap.size, 5, none⟩))), svIf (((((x.kind == y.kind) && (x.saga == y.saga)) && (x.seq == y.seq)) && (x.step == y.step)) && (x.tr == y.tr)) (SV.eq (.bool (x.back))), svIf (((((x.kind == y.kind) && (x.saga == y.saga)) && (x.seq == y.seq)) && (x.step == y.step)) && (x.tr == y.tr)) (SV.eq (.pointer (some ⟨w.heap.size + 1, 5, none⟩))), svIf (((((x.kind == y.kind) && (x.saga == y.saga)) && (x.seq == y.seq)) && (x.step == y.step)) && (x.tr == y.tr)) (SV.eq (.bool (y.back))), svIf (((((x.kind == y.kind) && (x.saga == y.saga)) && (x.seq == y.seq)) && (x.step == y.step)) && (x.tr == y.tr)) (SV.eq (.bool (x.back == y.back))), SV.eq (.bool ((((((x.kind == y.kind) && (x.saga == y.saga)) && (x.seq == y.seq)) && (x.step == y.step)) && (x.tr == y.tr)) && (x.back == y.back))), SV.eq (.bool ((((((x.kind == y.kind) && (x.saga == y.saga)) && (x.seq == y.seq)) && (x.step == y.step)) && (x.tr == y.tr)) && (x.back == y.back))), svIf ((((((x.kind == y.kind) && (x.saga == y.saga)) && (x.seq == y.seq)) && (x.step == y.step)) && (x.tr == y.tr)) && (x.back == y.back)) (SV.eq (.pointer (some ⟨w.heap.size, 6, none⟩))), svIf ((((((x.kind == y.kind) && (x.saga == y.saga)) && (x.seq == y.seq)) && (x.step == y.step)) && (x.tr == y.tr)) && (x.back == y.back)) (SV.eq (.bool (x.good))), svIf ((((((x.kind == y.kind) && (x.saga == y.saga)) && (x.seq == y.seq)) && (x.step == y.step)) && (x.tr == y.tr)) && (x.back == y.back)) (SV.eq (.pointer (some ⟨w.heap.size + 1, 6, none⟩))), svIf ((((((x.kind == y.kind) && (x.saga == y.saga)) && (x.seq == y.seq)) && (x.step == y.step)) && (x.tr == y.tr)) && (x.back == y.back)) (SV.eq (.bool (y.good))), svIf ((((((x.kind == y.kind) && (x.saga == y.saga)) && (x.seq == y.seq)) && (x.step == y.step)) && (x.tr == y.tr)) && (x.back == y.back)) (SV.eq (.bool (x.good == y.good))), SV.eq (.bool (((((((x.kind == y.kind) && (x.saga == y.saga)) && (x.seq == y.seq)) && (x.step == y.step)) && (x.tr == y.tr)) && (x.back == y.back)) && (x.good == y.good))), SV.eq (.bool (((((((x.kind == y.kind) && (x.saga == y.saga)) && (x.seq == y.seq)) && (x.step == y.step)) && (x.tr == y.tr)) && (x.back == y.back)) && (x.good == y.good))), svIf (((((((x.kind == y.kind) && (x.saga == y.saga)) && (x.seq == y.seq)) && (x.step == y.step)) && (x.tr == y.tr)) && (x.back == y.back)) && (x.good == y.good)) (SV.eq (.pointer (some ⟨w.heap.size, 7, none⟩))), svIf (((((((x.kind == y.kind) && (x.saga == y.saga)) && (x.seq == y.seq)) && (x.step == y.step)) && (x.tr == y.tr)) && (x.back == y.back)) && (x.good == y.good)) (SV.eq (.int .i64 (x.nd))), svIf (((((((x.kind == y.kind) && (x.saga == y.saga)) && (x.seq == y.seq)) && (x.step == y.step)) && (x.tr == y.tr)) && (x.back == y.back)) && (x.good == y.good)) (SV.eq (.pointer (some ⟨w.heap.size + 1, 7, none⟩))), svIf (((((((x.kind == y.kind) && (x.saga == y.saga)) && (x.seq == y.seq)) && (x.step == y.step)) && (x.tr == y.tr)) && (x.back == y.back)) && (x.good == y.good)) (SV.eq (.int .i64 (y.nd))), svIf (((((((x.kind == y.kind) && (x.saga == y.saga)) && (x.seq == y.seq)) && (x.step == y.step)) && (x.tr == y.tr)) && (x.back == y.back)) && (x.good == y.good)) (SV.eq (.bool (x.nd == y.nd))), SV.eq (.bool ((((((((x.kind == y.kind) && (x.saga == y.saga)) && (x.seq == y.seq)) && (x.step == y.step)) && (x.tr == y.tr)) && (x.back == y.back)) && (x.good == y.good)) && (x.nd == y.nd))), SV.eq (.bool ((((((((x.kind == y.kind) && (x.saga == y.saga)) && (x.seq == y.seq)) && (x.step == y.step)) && (x.tr == y.tr)) && (x.back == y.back)) && (x.good == y.good)) && (x.nd == y.nd))), svIf ((((((((x.kind == y.kind) && (x.saga == y.saga)) && (x.seq == y.seq)) && (x.step == y.step)) && (x.tr == y.tr)) && (x.back == y.back)) && (x.good == y.good)) && (x.nd == y.nd)) (SV.eq (.pointer (some ⟨w.heap.size, 8, none⟩))), svIf ((((((((x.kind == y.kind) && (x.saga == y.saga)) && (x.seq == y.seq)) && (x.step == y.step)) && (x.tr == y.tr)) && (x.back == y.back)) && (x.good == y.good)) && (x.nd == y.nd)) (SV.eq (.int .i64 (x.part))), svIf ((((((((x.kind == y.kind) && (x.saga == y.saga)) && (x.seq == y.seq)) && (x.step == y.step)) && (x.tr == y.tr)) && (x.back == y.back)) && (x.good == y.good)) && (x.nd == y.nd)) (SV.eq (.pointer (some ⟨w.heap.size + 1, 8, none⟩))), svIf ((((((((x.kind == y.kind) && (x.saga == y.saga)) && (x.seq == y.seq)) && (x.step == y.step)) && (x.tr == y.tr)) && (x.back == y.back)) && (x.good == y.good)) && (x.nd == y.nd)) (SV.eq (.int .i64 (y.part))), svIf ((((((((x.kind == y.kind) && (x.saga == y.saga)) && (x.seq == y.seq)) && (x.step == y.step)) && (x.tr == y.tr)) && (x.back == y.back)) && (x.good == y.good)) && (x.nd == y.nd)) (SV.eq (.bool (x.part == y.part))), SV.eq (.bool (((((((((x.kind == y.kind) && (x.saga == y.saga)) && (x.seq == y.seq)) && (x.step == y.step)) && (x.tr == y.tr)) && (x.back == y.back)) && (x.good == y.good)) && (x.nd == y.nd)) && (x.part == y.part))), SV.eq (.bool (((((((((x.kind == y.kind) && (x.saga == y.saga)) && (x.seq == y.seq)) && (x.step == y.step)) && (x.tr == y.tr)) && (x.back == y.back)) && (x.good == y.good)) && (x.nd == y.nd)) && (x.part == y.part))), svIf (((((((((x.kind == y.kind) && (x.saga == y.saga)) && (x.seq == y.seq)) && (x.step == y.step)) && (x.tr == y.tr)) && (x.back == y.back)) && (x.good == y.good)) && (x.nd == y.nd)) && (x.part == y.part)) (SV.eq (.pointer (some ⟨w.heap.size, 9, none⟩))), svIf (((((((((x.kind == y.kind) && (x.saga == y.saga)) && (x.seq == y.seq)) && (x.step == y.step)) && (x.tr == y.tr)) && (x.back == y.back)) && (x.good == y.good)) && (x.nd == y.nd)) && (x.part == y.part)) (SV.eq (.int .i64 (x.epoch))), svIf (((((((((x.kind == y.kind) && (x.saga == y.saga)) && (x.seq == y.seq)) && (x.step == y.step)) && (x.tr == y.tr)) && (x.back == y.back)) && (x.good == y.good)) && (x.nd == y.nd)) && (x.part == y.part)) (SV.eq (.pointer (some ⟨w.heap.size + 1, 9, none⟩))), svIf (((((((((x.kind == y.kind) && (x.saga == y.saga)) && (x.seq == y.seq)) && (x.step == y.step)) && (x.tr == y.tr)) && (x.back == y.back)) && (x.good == y.good)) && (x.nd == y.nd)) && (x.part == y.part)) (SV.eq (.int .i64 (y.epoch))), svIf (((((((((x.kind == y.kind) && (x.saga == y.saga)) && (x.seq == y.seq)) && (x.step == y.step)) && (x.tr == y.tr)) && (x.back == y.back)) && (x.good == y.good)) && (x.nd == y.nd)) && (x.part == y.part)) (SV.eq (.bool (x.epoch == y.epoch))), SV.eq (.bool ((((((((((x.kind == y.kind) && (x.saga == y.saga)) && (x.seq == y.seq)) && (x.step == y.step)) && (x.tr == y.tr)) && (x.back == y.back)) && (x.good == y.good)) && (x.nd == y.nd)) && (x.part == y.part)) && (x.epoch == y.epoch))), SV.eq (.bool ((((((((((x.kind == y.kind) && (x.saga == y.saga)) && (x.seq == y.seq)) && (x.step == y.step)) && (x.tr == y.tr)) && (x.back == y.back)) && (x.good == y.good)) && (x.nd == y.nd)) && (x.part == y.part)) && (x.epoch == y.epoch))), svIf ((((((((((x.kind == y.kind) && (x.saga == y.saga)) && (x.seq == y.seq)) && (x.step == y.step)) && (x.tr == y.tr)) && (x.back == y.back)) && (x.good == y.good)) && (x.nd == y.nd)) && (x.part == y.part)) && (x.epoch == y.epoch)) (SV.eq (.pointer (some ⟨w.heap.size, 10, none⟩))), svIf ((((((((((x.kind == y.kind) && (x.saga == y.saga)) && (x.seq == y.seq)) && (x.step == y.step)) && (x.tr == y.tr)) && (x.back == y.back)) && (x.good == y.good)) && (x.nd == y.nd)) && (x.part == y.part)) && (x.epoch == y.epoch)) (SV.eq (.agg (rowA 32 (bF (x.tag))))), svIf ((((((((((x.kind == y.kind) && (x.saga == y.saga)) && (x.seq == y.seq)) && (x.step == y.step)) && (x.tr == y.tr)) && (x.back == y.back)) && (x.good == y.good)) && (x.nd == y.nd)) && (x.part == y.part)) && (x.epoch == y.epoch)) (SV.eq (.pointer (some ⟨w.heap.size + 1, 10, none⟩))), svIf ((((((((((x.kind == y.kind) && (x.saga == y.saga)) && (x.seq == y.seq)) && (x.step == y.step)) && (x.tr == y.tr)) && (x.back == y.back)) && (x.good == y.good)) && (x.nd == y.nd)) && (x.part == y.part)) && (x.epoch == y.epoch)) (SV.eq (.agg (rowA 32 (bF (y.tag))))), svIf ((((((((((x.kind == y.kind) && (x.saga == y.saga)) && (x.seq == y.seq)) && (x.step == y.step)) && (x.tr == y.tr)) && (x.back == y.back)) && (x.good == y.good)) && (x.nd == y.nd)) && (x.part == y.part)) && (x.epoch == y.epoch)) (SV.eq (.bool (eqH (x.tag) (y.tag)))), SV.eq (.bool (((((((((((x.kind == y.kind) && (x.saga == y.saga)) && (x.seq == y.seq)) && (x.step == y.step)) && (x.tr == y.tr)) && (x.back == y.back)) && (x.good == y.good)) && (x.nd == y.nd)) && (x.part == y.part)) && (x.epoch == y.epoch)) && (eqH (x.tag) (y.tag)))), SV.eq (.bool (((((((((((x.kind == y.kind) && (x.saga == y.saga)) && (x.seq == y.seq)) && (x.step == y.step)) && (x.tr == y.tr)) && (x.back == y.back)) && (x.good == y.good)) && (x.nd == y.nd)) && (x.part == y.part)) && (x.epoch == y.epoch)) && (eqH (x.tag) (y.tag)))), svIf (((((((((((x.kind == y.kind) && (x.saga == y.saga)) && (x.seq == y.seq)) && (x.step == y.step)) && (x.tr == y.tr)) && (x.back == y.back)) && (x.good == y.good)) && (x.nd == y.nd)) && (x.part == y.part)) && (x.epoch == y.epoch)) && (eqH (x.tag) (y.tag))) (SV.eq (.pointer (some ⟨w.heap.size, 42, none⟩))), svIf (((((((((((x.kind == y.kind) && (x.saga == y.saga)) && (x.seq == y.seq)) && (x.step == y.step)) && (x.tr == y.tr)) && (x.back == y.back)) && (x.good == y.good)) && (x.nd == y.nd)) && (x.part == y.part)) && (x.epoch == y.epoch)) && (eqH (x.tag) (y.tag))) (SV.eq (sv)), svIf (((((((((((x.kind == y.kind) && (x.saga == y.saga)) && (x.seq == y.seq)) && (x.step == y.step)) && (x.tr == y.tr)) && (x.back == y.back)) && (x.good == y.good)) && (x.nd == y.nd)) && (x.part == y.part)) && (x.epoch == y.epoch)) && (eqH (x.tag) (y.tag))) (SV.eq (.pointer (some ⟨w.heap.size + 1, 42, none⟩))), svIf (((((((((((x.kind == y.kind) && (x.saga == y.saga)) && (x.seq == y.seq)) && (x.step == y.step)) && (x.tr == y.tr)) && (x.back == y.back)) && (x.good == y.good)) && (x.nd == y.nd)) && (x.part == y.part)) && (x.epoch == y.epoch)) && (eqH (x.tag) (y.tag))) (SV.eq (su)), svIf (((((((((((x.kind == y.kind) && (x.saga == y.saga)) && (x.seq == y.seq)) && (x.step == y.step)) && (x.tr == y.tr)) && (x.back == y.back)) && (x.good == y.good)) && (x.nd == y.nd)) && (x.part == y.part)) && (x.epoch == y.epoch)) && (eqH (x.tag) (y.tag))) (SV.eq (.bool (decide (x.steps = y.steps)))), SV.eq (.bool ((((((((((((x.kind == y.kind) && (x.saga == y.saga)) && (x.seq == y.seq)) && (x.step == y.step)) && (x.tr == y.tr)) && (x.back == y.back)) && (x.good == y.good)) && (x.nd == y.nd)) && (x.part == y.part)) && (x.epoch == y.epoch)) && (eqH (x.tag) (y.tag))) && (decide (x.steps = y.steps)))), SV.eq (.bool ((((((((((((x.kind == y.kind) && (x.saga == y.saga)) && (x.seq == y.seq)) && (x.step == y.step)) && (x.tr == y.tr)) && (x.back == y.back)) && (x.good == y.good)) && (x.nd == y.nd)) && (x.part == y.part)) && (x.epoch == y.epoch)) && (eqH (x.tag) (y.tag))) && (decide (x.steps = y.steps)))), svIf ((((((((((((x.kind == y.kind) && (x.saga == y.saga)) && (x.seq == y.seq)) && (x.step == y.step)) && (x.tr == y.tr)) && (x.back == y.back)) && (x.good == y.good)) && (x.nd == y.nd)) && (x.part == y.part)) && (x.epoch == y.epoch)) && (eqH (x.tag) (y.tag))) && (decide (x.steps = y.steps))) (SV.eq (.pointer (some ⟨w.heap.size, 43, none⟩))), svIf ((((((((((((x.kind == y.kind) && (x.saga == y.saga)) && (x.seq == y.seq)) && (x.step == y.step)) && (x.tr == y.tr)) && (x.back == y.back)) && (x.good == y.good)) && (x.nd == y.nd)) && (x.part == y.part)) && (x.epoch == y.epoch)) && (eqH (x.tag) (y.tag))) && (decide (x.steps = y.steps))) (SV.eq (dv)), svIf ((((((((((((x.kind == y.kind) && (x.saga == y.saga)) && (x.seq == y.seq)) && (x.step == y.step)) && (x.tr == y.tr)) && (x.back == y.back)) && (x.good == y.good)) && (x.nd == y.nd)) && (x.part == y.part)) && (x.epoch == y.epoch)) && (eqH (x.tag) (y.tag))) && (decide (x.steps = y.steps))) (SV.eq (.pointer (some ⟨w.heap.size + 1, 43, none⟩))), svIf ((((((((((((x.kind == y.kind) && (x.saga == y.saga)) && (x.seq == y.seq)) && (x.step == y.step)) && (x.tr == y.tr)) && (x.back == y.back)) && (x.good == y.good)) && (x.nd == y.nd)) && (x.part == y.part)) && (x.epoch == y.epoch)) && (eqH (x.tag) (y.tag))) && (decide (x.steps = y.steps))) (SV.eq (du)), svIf ((((((((((((x.kind == y.kind) && (x.saga == y.saga)) && (x.seq == y.seq)) && (x.step == y.step)) && (x.tr == y.tr)) && (x.back == y.back)) && (x.good == y.good)) && (x.nd == y.nd)) && (x.part == y.part)) && (x.epoch == y.epoch)) && (eqH (x.tag) (y.tag))) && (decide (x.steps = y.steps))) (SV.eq (.bool (decide (x.data = y.data)))), SV.eq (.bool (((((((((((((x.kind == y.kind) && (x.saga == y.saga)) && (x.seq == y.seq)) && (x.step == y.step)) && (x.tr == y.tr)) && (x.back == y.back)) && (x.good == y.good)) && (x.nd == y.nd)) && (x.part == y.part)) && (x.epoch == y.epoch)) && (eqH (x.tag) (y.tag))) && (decide (x.steps = y.steps))) && (decide (x.data = y.data)))), SV.eq (.bool (((((((((((((x.kind == y.kind) && (x.saga == y.saga)) && (x.seq == y.seq)) && (x.step == y.step)) && (x.tr == y.tr)) && (x.back == y.back)) && (x.good == y.good)) && (x.nd == y.nd)) && (x.part == y.part)) && (x.epoch == y.epoch)) && (eqH (x.tag) (y.tag))) && (decide (x.steps = y.steps))) && (decide (x.data = y.data)))), svIf (((((((((((((x.kind == y.kind) && (x.saga == y.saga)) && (x.seq == y.seq)) && (x.step == y.step)) && (x.tr == y.tr)) && (x.back == y.back)) && (x.good == y.good)) && (x.nd == y.nd)) && (x.part == y.part)) && (x.epoch == y.epoch)) && (eqH (x.tag) (y.tag))) && (decide (x.steps = y.steps))) && (decide (x.data = y.data))) (SV.eq (.pointer (some ⟨w.heap.size, 44, none⟩))), svIf (((((((((((((x.kind == y.kind) && (x.saga == y.saga)) && (x.seq == y.seq)) && (x.step == y.step)) && (x.tr == y.tr)) && (x.back == y.back)) && (x.good == y.good)) && (x.nd == y.nd)) && (x.part == y.part)) && (x.epoch == y.epoch)) && (eqH (x.tag) (y.tag))) && (decide (x.steps = y.steps))) && (decide (x.data = y.data))) (SV.eq (.agg (rowA 32 (bF (x.salt))))), svIf (((((((((((((x.kind == y.kind) && (x.saga == y.saga)) && (x.seq == y.seq)) && (x.step == y.step)) && (x.tr == y.tr)) && (x.back == y.back)) && (x.good == y.good)) && (x.nd == y.nd)) && (x.part == y.part)) && (x.epoch == y.epoch)) && (eqH (x.tag) (y.tag))) && (decide (x.steps = y.steps))) && (decide (x.data = y.data))) (SV.eq (.pointer (some ⟨w.heap.size + 1, 44, none⟩))), svIf (((((((((((((x.kind == y.kind) && (x.saga == y.saga)) && (x.seq == y.seq)) && (x.step == y.step)) && (x.tr == y.tr)) && (x.back == y.back)) && (x.good == y.good)) && (x.nd == y.nd)) && (x.part == y.part)) && (x.epoch == y.epoch)) && (eqH (x.tag) (y.tag))) && (decide (x.steps = y.steps))) && (decide (x.data = y.data))) (SV.eq (.agg (rowA 32 (bF (y.salt))))), svIf (((((((((((((x.kind == y.kind) && (x.saga == y.saga)) && (x.seq == y.seq)) && (x.step == y.step)) && (x.tr == y.tr)) && (x.back == y.back)) && (x.good == y.good)) && (x.nd == y.nd)) && (x.part == y.part)) && (x.epoch == y.epoch)) && (eqH (x.tag) (y.tag))) && (decide (x.steps = y.steps))) && (decide (x.data = y.data))) (SV.eq (.bool (eqH (x.salt) (y.salt)))), SV.eq (.bool ((((((((((((((x.kind == y.kind) && (x.saga == y.saga)) && (x.seq == y.seq)) && (x.step == y.step)) && (x.tr == y.tr)) && (x.back == y.back)) && (x.good == y.good)) && (x.nd == y.nd)) && (x.part == y.part)) && (x.epoch == y.epoch)) && (eqH (x.tag) (y.tag))) && (decide (x.steps = y.steps))) && (decide (x.data = y.data))) && (eqH (x.salt) (y.salt)))), SV.eq (.bool ((((((((((((((x.kind == y.kind) && (x.saga == y.saga)) && (x.seq == y.seq)) && (x.step == y.step)) && (x.tr == y.tr)) && (x.back == y.back)) && (x.good == y.good)) && (x.nd == y.nd)) && (x.part == y.part)) && (x.epoch == y.epoch)) && (eqH (x.tag) (y.tag))) && (decide (x.steps = y.steps))) && (decide (x.data = y.data))) && (eqH (x.salt) (y.salt)))), svIf ((((((((((((((x.kind == y.kind) && (x.saga == y.saga)) && (x.seq == y.seq)) && (x.step == y.step)) && (x.tr == y.tr)) && (x.back == y.back)) && (x.good == y.good)) && (x.nd == y.nd)) && (x.part == y.part)) && (x.epoch == y.epoch)) && (eqH (x.tag) (y.tag))) && (decide (x.steps = y.steps))) && (decide (x.data = y.data))) && (eqH (x.salt) (y.salt))) (SV.eq (.pointer (some ⟨w.heap.size, 76, none⟩))), svIf ((((((((((((((x.kind == y.kind) && (x.saga == y.saga)) && (x.seq == y.seq)) && (x.step == y.step)) && (x.tr == y.tr)) && (x.back == y.back)) && (x.good == y.good)) && (x.nd == y.nd)) && (x.part == y.part)) && (x.epoch == y.epoch)) && (eqH (x.tag) (y.tag))) && (decide (x.steps = y.steps))) && (decide (x.data = y.data))) && (eqH (x.salt) (y.salt))) (SV.eq (.bool (x.gone))), svIf ((((((((((((((x.kind == y.kind) && (x.saga == y.saga)) && (x.seq == y.seq)) && (x.step == y.step)) && (x.tr == y.tr)) && (x.back == y.back)) && (x.good == y.good)) && (x.nd == y.nd)) && (x.part == y.part)) && (x.epoch == y.epoch)) && (eqH (x.tag) (y.tag))) && (decide (x.steps = y.steps))) && (decide (x.data = y.data))) && (eqH (x.salt) (y.salt))) (SV.eq (.pointer (some ⟨w.heap.size + 1, 76, none⟩))), svIf ((((((((((((((x.kind == y.kind) && (x.saga == y.saga)) && (x.seq == y.seq)) && (x.step == y.step)) && (x.tr == y.tr)) && (x.back == y.back)) && (x.good == y.good)) && (x.nd == y.nd)) && (x.part == y.part)) && (x.epoch == y.epoch)) && (eqH (x.tag) (y.tag))) && (decide (x.steps = y.steps))) && (decide (x.data = y.data))) && (eqH (x.salt) (y.salt))) (SV.eq (.bool (y.gone))), svIf ((((((((((((((x.kind == y.kind) && (x.saga == y.saga)) && (x.seq == y.seq)) && (x.step == y.step)) && (x.tr == y.tr)) && (x.back == y.back)) && (x.good == y.good)) && (x.nd == y.nd)) && (x.part == y.part)) && (x.epoch == y.epoch)) && (eqH (x.tag) (y.tag))) && (decide (x.steps = y.steps))) && (decide (x.data = y.data))) && (eqH (x.salt) (y.salt))) (SV.eq (.bool (x.gone == y.gone))), SV.eq (.bool (((((((((((((((x.kind == y.kind) && (x.saga == y.saga)) && (x.seq == y.seq)) && (x.step == y.step)) && (x.tr == y.tr)) && (x.back == y.back)) && (x.good == y.good)) && (x.nd == y.nd)) && (x.part == y.part)) && (x.epoch == y.epoch)) && (eqH (x.tag) (y.tag))) && (decide (x.steps = y.steps))) && (decide (x.data = y.data))) && (eqH (x.salt) (y.salt))) && (x.gone == y.gone))), SV.eq (.bool (((((((((((((((x.kind == y.kind) && (x.saga == y.saga)) && (x.seq == y.seq)) && (x.step == y.step)) && (x.tr == y.tr)) && (x.back == y.back)) && (x.good == y.good)) && (x.nd == y.nd)) && (x.part == y.part)) && (x.epoch == y.epoch)) && (eqH (x.tag) (y.tag))) && (decide (x.steps = y.steps))) && (decide (x.data = y.data))) && (eqH (x.salt) (y.salt))) && (x.gone == y.gone))), svIf (((((((((((((((x.kind == y.kind) && (x.saga == y.saga)) && (x.seq == y.seq)) && (x.step == y.step)) && (x.tr == y.tr)) && (x.back == y.back)) && (x.good == y.good)) && (x.nd == y.nd)) && (x.part == y.part)) && (x.epoch == y.epoch)) && (eqH (x.tag) (y.tag))) && (decide (x.steps = y.steps))) && (decide (x.data = y.data))) && (eqH (x.salt) (y.salt))) && (x.gone == y.gone)) (SV.eq (.pointer (some ⟨w.heap.size, 77, none⟩))), svIf (((((((((((((((x.kind == y.kind) && (x.saga == y.saga)) && (x.seq == y.seq)) && (x.step == y.step)) && (x.tr == y.tr)) && (x.back == y.back)) && (x.good == y.good)) && (x.nd == y.nd)) && (x.part == y.part)) && (x.epoch == y.epoch)) && (eqH (x.tag) (y.tag))) && (decide (x.steps = y.steps))) && (decide (x.data = y.data))) && (eqH (x.salt) (y.salt))) && (x.gone == y.gone)) (SV.eq (.agg (rowA 32 (bF (x.com))))), svIf (((((((((((((((x.kind == y.kind) && (x.saga == y.saga)) && (x.seq == y.seq)) && (x.step == y.step)) && (x.tr == y.tr)) && (x.back == y.back)) && (x.good == y.good)) && (x.nd == y.nd)) && (x.part == y.part)) && (x.epoch == y.epoch)) && (eqH (x.tag) (y.tag))) && (decide (x.steps = y.steps))) && (decide (x.data = y.data))) && (eqH (x.salt) (y.salt))) && (x.gone == y.gone)) (SV.eq (.pointer (some ⟨w.heap.size + 1, 77, none⟩))), svIf (((((((((((((((x.kind == y.kind) && (x.saga == y.saga)) && (x.seq == y.seq)) && (x.step == y.step)) && (x.tr == y.tr)) && (x.back == y.back)) && (x.good == y.good)) && (x.nd == y.nd)) && (x.part == y.part)) && (x.epoch == y.epoch)) && (eqH (x.tag) (y.tag))) && (decide (x.steps = y.steps))) && (decide (x.data = y.data))) && (eqH (x.salt) (y.salt))) && (x.gone == y.gone)) (SV.eq (.agg (rowA 32 (bF (y.com))))), svIf (((((((((((((((x.kind == y.kind) && (x.saga == y.saga)) && (x.seq == y.seq)) && (x.step == y.step)) && (x.tr == y.tr)) && (x.back == y.back)) && (x.good == y.good)) && (x.nd == y.nd)) && (x.part == y.part)) && (x.epoch == y.epoch)) && (eqH (x.tag) (y.tag))) && (decide (x.steps = y.steps))) && (decide (x.data = y.data))) && (eqH (x.salt) (y.salt))) && (x.gone == y.gone)) (SV.eq (.bool (eqH (x.com) (y.com)))), SV.eq (.bool ((((((((((((((((x.kind == y.kind) && (x.saga == y.saga)) && (x.seq == y.seq)) && (x.step == y.step)) && (x.tr == y.tr)) && (x.back == y.back)) && (x.good == y.good)) && (x.nd == y.nd)) && (x.part == y.part)) && (x.epoch == y.epoch)) && (eqH (x.tag) (y.tag))) && (decide (x.steps = y.steps))) && (decide (x.data = y.data))) && (eqH (x.salt) (y.salt))) && (x.gone == y.gone)) && (eqH (x.com) (y.com))))] [([(2, none)], none), ([(5, some 0)], none), ([(3, none)], none), ([(7, some 2)], none), ([(6, some 1), (8, some 3)], none), ([(9, some 4)], none), ([(2, none), (10, some 5)], some (10, true)), ([(11, some 6), (10, some 5)], some (10, true)), ([(3, none), (10, some 5)], some (10, true)), ([(13, some 8), (10, some 5)], some (10, true)), ([(12, some 7), (14, some 9), (10, some 5)], some (10, true)), ([(10, some 5), (15, some 10)], none), ([(16, some 11)], none), ([(2, none), (17, some 12)], some (17, true)), ([(18, some 13), (17, some 12)], some (17, true)), ([(3, none), (17, some 12)], some (17, true)), ([(20, some 15), (17, some 12)], some (17, true)), ([(19, some 14), (21, some 16), (17, some 12)], some (17, true)), ([(17, some 12), (22, some 17)], none), ([(23, some 18)], none), ([(2, none), (24, some 19)], some (24, true)), ([(25, some 20), (24, some 19)], some (24, true)), ([(3, none), (24, some 19)], some (24, true)), ([(27, some 22), (24, some 19)], some (24, true)), ([(26, some 21), (28, some 23), (24, some 19)], some (24, true)), ([(24, some 19), (29, some 24)], none), ([(30, some 25)], none), ([(2, none), (31, some 26)], some (31, true)), ([(32, some 27), (31, some 26)], some (31, true)), ([(3, none), (31, some 26)], some (31, true)), ([(34, some 29), (31, some 26)], some (31, true)), ([(33, some 28), (35, some 30), (31, some 26)], some (31, true)), ([(31, some 26), (36, some 31)], none), ([(37, some 32)], none), ([(2, none), (38, some 33)], some (38, true)), ([(39, some 34), (38, some 33)], some (38, true)), ([(3, none), (38, some 33)], some (38, true)), ([(41, some 36), (38, some 33)], some (38, true)), ([(40, some 35), (42, some 37), (38, some 33)], some (38, true)), ([(38, some 33), (43, some 38)], none), ([(44, some 39)], none), ([(2, none), (45, some 40)], some (45, true)), ([(46, some 41), (45, some 40)], some (45, true)), ([(3, none), (45, some 40)], some (45, true)), ([(48, some 43), (45, some 40)], some (45, true)), ([(47, some 42), (49, some 44), (45, some 40)], some (45, true)), ([(45, some 40), (50, some 45)], none), ([(51, some 46)], none), ([(2, none), (52, some 47)], some (52, true)), ([(53, some 48), (52, some 47)], some (52, true)), ([(3, none), (52, some 47)], some (52, true)), ([(55, some 50), (52, some 47)], some (52, true)), ([(54, some 49), (56, some 51), (52, some 47)], some (52, true)), ([(52, some 47), (57, some 52)], none), ([(58, some 53)], none), ([(2, none), (59, some 54)], some (59, true)), ([(60, some 55), (59, some 54)], some (59, true)), ([(3, none), (59, some 54)], some (59, true)), ([(62, some 57), (59, some 54)], some (59, true)), ([(61, some 56), (63, some 58), (59, some 54)], some (59, true)), ([(59, some 54), (64, some 59)], none), ([(65, some 60)], none), ([(2, none), (66, some 61)], some (66, true)), ([(67, some 62), (66, some 61)], some (66, true)), ([(3, none), (66, some 61)], some (66, true)), ([(69, some 64), (66, some 61)], some (66, true)), ([(68, some 63), (70, some 65), (66, some 61)], some (66, true)), ([(66, some 61), (71, some 66)], none), ([(72, some 67)], none), ([(2, none), (73, some 68)], some (73, true)), ([(74, some 69), (73, some 68)], some (73, true)), ([(3, none), (73, some 68)], some (73, true)), ([(76, some 71), (73, some 68)], some (73, true)), ([(75, some 70), (77, some 72), (73, some 68)], some (73, true)), ([(73, some 68), (78, some 73)], none), ([(79, some 74)], none), ([(2, none), (80, some 75)], some (80, true)), ([(81, some 76), (80, some 75)], some (80, true)), ([(3, none), (80, some 75)], some (80, true)), ([(83, some 78), (80, some 75)], some (80, true)), ([(82, some 77), (84, some 79), (80, some 75)], some (80, true)), ([(80, some 75), (85, some 80)], none), ([(86, some 81)], none), ([(2, none), (87, some 82)], some (87, true)), ([(88, some 83), (87, some 82)], some (87, true)), ([(3, none), (87, some 82)], some (87, true)), ([(90, some 85), (87, some 82)], some (87, true)), ([(89, some 84), (91, some 86), (87, some 82)], some (87, true)), ([(87, some 82), (92, some 87)], none), ([(93, some 88)], none), ([(2, none), (94, some 89)], some (94, true)), ([(95, some 90), (94, some 89)], some (94, true)), ([(3, none), (94, some 89)], some (94, true)), ([(97, some 92), (94, some 89)], some (94, true)), ([(96, some 91), (98, some 93), (94, some 89)], some (94, true)), ([(94, some 89), (99, some 94)], none), ([(100, some 95)], none), ([(2, none), (101, some 96)], some (101, true)), ([(102, some 97), (101, some 96)], some (101, true)), ([(3, none), (101, some 96)], some (101, true)), ([(104, some 99), (101, some 96)], some (101, true)), ([(103, some 98), (105, some 100), (101, some 96)], some (101, true)), ([(101, some 96), (106, some 101)], none), ([(107, some 102)], none), ([(2, none), (108, some 103)], some (108, true)), ([(109, some 104), (108, some 103)], some (108, true)), ([(3, none), (108, some 103)], some (108, true)), ([(111, some 106), (108, some 103)], some (108, true)), ([(110, some 105), (112, some 107), (108, some 103)], some (108, true)), ([(108, some 103), (113, some 108)], none)] 115 110 rfl rfl (by kernel_rfl) NewT.trans (NewT.refl _) trivial (Nat.le_of_ble_eq_true rfl) ⟨?_, ?_, ?_, ?_, ?_, ?_, ?_, ?_, ?_, ?_, ?_, ?_, ?_, ?_, ?_, ?_, ?_, ?_, ?_, ?_, ?_, ?_, ?_, ?_, ?_, ?_, ?_, ?_, ?_, ?_, ?_, ?_, ?_, ?_, ?_, ?_, ?_, ?_, ?_, ?_, ?_, ?_, ?_, ?_, ?_, ?_, ?_, ?_, ?_, ?_, ?_, ?_, ?_, ?_, ?_, ?_, ?_, ?_, ?_, ?_, ?_, ?_, ?_, ?_, ?_, ?_, ?_, ?_, ?_, ?_, ?_, ?_, ?_, ?_, ?_, ?_, ?_, ?_, ?_, ?_, ?_, ?_, ?_, ?_, ?_, ?_, ?_, ?_, ?_, ?_, ?_, ?_, ?_, ?_, ?_, ?_, ?_, ?_, ?_, ?_, ?_, ?_, ?_, ?_, ?_, ?_, ?_, ?_, ?_, ?_, trivial⟩ ?_
  · -- 0: Op.fieldAddr 27 t2 0
    intro a wx hT hF _ K hK
    replace hK := fun v w' (h : NewT wx w') c => hK v w' h trivial c
    obtain ⟨f2, _⟩ := hF
    have f2 : a.tmps.getD 2 undef = .pointer (some ⟨w.heap.size, 0, none⟩) := f2
    refine rely_wp rfl ?_
    exact opr_fldR (by decide) rfl f2 (hK _ _ (NewT.refl _) rfl)
  · -- 1: Op.load 3 t5
    intro a wx hT hF _ K hK
    replace hK := fun v w' (h : NewT wx w') c => hK v w' h trivial c
    obtain ⟨f5, _⟩ := hF
    have f5 : a.tmps.getD 5 undef = .pointer (some ⟨w.heap.size, 0, none⟩) := f5
    refine rely_wp rfl ?_
    exact opr_ldI (hT.row R1.out) (by decide) rfl rfl f5 (hK _ _ (NewT.refl _) rfl)
  · -- 2: Op.fieldAddr 27 t3 0
    intro a wx hT hF _ K hK
    replace hK := fun v w' (h : NewT wx w') c => hK v w' h trivial c
    obtain ⟨f3, _⟩ := hF
    have f3 : a.tmps.getD 3 undef = .pointer (some ⟨w.heap.size + 1, 0, none⟩) := f3
    refine rely_wp rfl ?_
    exact opr_fldR (by decide) rfl f3 (hK _ _ (NewT.refl _) rfl)
  · -- 3: Op.load 3 t7
    intro a wx hT hF _ K hK
    replace hK := fun v w' (h : NewT wx w') c => hK v w' h trivial c
    obtain ⟨f7, _⟩ := hF
    have f7 : a.tmps.getD 7 undef = .pointer (some ⟨w.heap.size + 1, 0, none⟩) := f7
    refine rely_wp rfl ?_
    exact opr_ldI (hT.row R2.out) (by decide) rfl rfl f7 (hK _ _ (NewT.refl _) rfl)
  · -- 4: Op.binOp BinOp.eql 3 t6 t8 3
    intro a wx hT hF _ K hK
    replace hK := fun v w' (h : NewT wx w') c => hK v w' h trivial c
    obtain ⟨f6, f8, _⟩ := hF
    have f6 : a.tmps.getD 6 undef = .int .i64 (x.kind) := f6
    have f8 : a.tmps.getD 8 undef = .int .i64 (y.kind) := f8
    refine rely_wp rfl ?_
    exact opr_cmp (b := x.kind == y.kind) (.inl ⟨rfl, rfl⟩) Tryd.underlying3 rfl f6 f8 (hK _ _ (NewT.refl _) rfl)
  · -- 5: Op.move t9
    intro a wx hT hF _ K hK
    replace hK := fun v w' (h : NewT wx w') c => hK v w' h trivial c
    obtain ⟨f9, _⟩ := hF
    have f9 : a.tmps.getD 9 undef = .bool (x.kind == y.kind) := f9
    refine rely_wp rfl ?_
    exact opr_move (.inl rfl) (hK _ _ (NewT.refl _) f9)
  · -- 6: Op.fieldAddr 27 t2 1
    intro a wx hT hF _ K hK
    replace hK := fun v w' (h : NewT wx w') c => hK v w' h trivial c
    obtain ⟨f2, f10, _⟩ := hF
    have f2 : a.tmps.getD 2 undef = .pointer (some ⟨w.heap.size, 0, none⟩) := f2
    have f10 : a.tmps.getD 10 undef = .bool (x.kind == y.kind) := f10
    refine rely_on (rely_gt f10) (fun hE => ?_) (fun hE => hK _ _ (NewT.refl _) (svIf_off hE))
    replace hK := fun v w' (h : NewT wx w') (c : (SV.eq (.pointer (some ⟨w.heap.size, 1, none⟩))).pred v w') => hK v w' h (fun _ => c)
    exact opr_fldR (by decide) rfl f2 (hK _ _ (NewT.refl _) rfl)
  · -- 7: Op.load 3 t11
    intro a wx hT hF _ K hK
    replace hK := fun v w' (h : NewT wx w') c => hK v w' h trivial c
    obtain ⟨f11, f10, _⟩ := hF
    have f11 : (x.kind == y.kind) = true → a.tmps.getD 11 undef = .pointer (some ⟨w.heap.size, 1, none⟩) := f11
    have f10 : a.tmps.getD 10 undef = .bool (x.kind == y.kind) := f10
    refine rely_on (rely_gt f10) (fun hE => ?_) (fun hE => hK _ _ (NewT.refl _) (svIf_off hE))
    replace hK := fun v w' (h : NewT wx w') (c : (SV.eq (.int .i64 (x.saga))).pred v w') => hK v w' h (fun _ => c)
    exact opr_ldI (hT.row R1.out) (by decide) rfl rfl (f11 hE) (hK _ _ (NewT.refl _) rfl)
  · -- 8: Op.fieldAddr 27 t3 1
    intro a wx hT hF _ K hK
    replace hK := fun v w' (h : NewT wx w') c => hK v w' h trivial c
    obtain ⟨f3, f10, _⟩ := hF
    have f3 : a.tmps.getD 3 undef = .pointer (some ⟨w.heap.size + 1, 0, none⟩) := f3
    have f10 : a.tmps.getD 10 undef = .bool (x.kind == y.kind) := f10
    refine rely_on (rely_gt f10) (fun hE => ?_) (fun hE => hK _ _ (NewT.refl _) (svIf_off hE))
    replace hK := fun v w' (h : NewT wx w') (c : (SV.eq (.pointer (some ⟨w.heap.size + 1, 1, none⟩))).pred v w') => hK v w' h (fun _ => c)
    exact opr_fldR (by decide) rfl f3 (hK _ _ (NewT.refl _) rfl)
  · -- 9: Op.load 3 t13
    intro a wx hT hF _ K hK
    replace hK := fun v w' (h : NewT wx w') c => hK v w' h trivial c
    obtain ⟨f13, f10, _⟩ := hF
    have f13 : (x.kind == y.kind) = true → a.tmps.getD 13 undef = .pointer (some ⟨w.heap.size + 1, 1, none⟩) := f13
    have f10 : a.tmps.getD 10 undef = .bool (x.kind == y.kind) := f10
    refine rely_on (rely_gt f10) (fun hE => ?_) (fun hE => hK _ _ (NewT.refl _) (svIf_off hE))
    replace hK := fun v w' (h : NewT wx w') (c : (SV.eq (.int .i64 (y.saga))).pred v w') => hK v w' h (fun _ => c)
    exact opr_ldI (hT.row R2.out) (by decide) rfl rfl (f13 hE) (hK _ _ (NewT.refl _) rfl)
  · -- 10: Op.binOp BinOp.eql 3 t12 t14 3
    intro a wx hT hF _ K hK
    replace hK := fun v w' (h : NewT wx w') c => hK v w' h trivial c
    obtain ⟨f12, f14, f10, _⟩ := hF
    have f12 : (x.kind == y.kind) = true → a.tmps.getD 12 undef = .int .i64 (x.saga) := f12
    have f14 : (x.kind == y.kind) = true → a.tmps.getD 14 undef = .int .i64 (y.saga) := f14
    have f10 : a.tmps.getD 10 undef = .bool (x.kind == y.kind) := f10
    refine rely_on (rely_gt f10) (fun hE => ?_) (fun hE => hK _ _ (NewT.refl _) (svIf_off hE))
    replace hK := fun v w' (h : NewT wx w') (c : (SV.eq (.bool (x.saga == y.saga))).pred v w') => hK v w' h (fun _ => c)
    exact opr_cmp (b := x.saga == y.saga) (.inl ⟨rfl, rfl⟩) Tryd.underlying3 rfl (f12 hE) (f14 hE) (hK _ _ (NewT.refl _) rfl)
  · -- 11: Op.pick t10 t15 (const (Value.bool false))
    intro a wx hT hF _ K hK
    replace hK := fun v w' (h : NewT wx w') c => hK v w' h trivial c
    obtain ⟨f10, f15, _⟩ := hF
    have f10 : a.tmps.getD 10 undef = .bool (x.kind == y.kind) := f10
    have f15 : (x.kind == y.kind) = true → a.tmps.getD 15 undef = .bool (x.saga == y.saga) := f15
    refine rely_wp rfl ?_
    exact opr_pick_b rfl f10 (fun hb => hK _ _ (NewT.refl _) (pk_and1 (f15 hb) hb)) (fun hb => hK _ _ (NewT.refl _) (pk_and0 hb))
  · -- 12: Op.move t16
    intro a wx hT hF _ K hK
    replace hK := fun v w' (h : NewT wx w') c => hK v w' h trivial c
    obtain ⟨f16, _⟩ := hF
    have f16 : a.tmps.getD 16 undef = .bool ((x.kind == y.kind) && (x.saga == y.saga)) := f16
    refine rely_wp rfl ?_
    exact opr_move (.inl rfl) (hK _ _ (NewT.refl _) f16)
  · -- 13: Op.fieldAddr 27 t2 2
    intro a wx hT hF _ K hK
    replace hK := fun v w' (h : NewT wx w') c => hK v w' h trivial c
    obtain ⟨f2, f17, _⟩ := hF
    have f2 : a.tmps.getD 2 undef = .pointer (some ⟨w.heap.size, 0, none⟩) := f2
    have f17 : a.tmps.getD 17 undef = .bool ((x.kind == y.kind) && (x.saga == y.saga)) := f17
    refine rely_on (rely_gt f17) (fun hE => ?_) (fun hE => hK _ _ (NewT.refl _) (svIf_off hE))
    replace hK := fun v w' (h : NewT wx w') (c : (SV.eq (.pointer (some ⟨w.heap.size, 2, none⟩))).pred v w') => hK v w' h (fun _ => c)
    exact opr_fldR (by decide) rfl f2 (hK _ _ (NewT.refl _) rfl)
  · -- 14: Op.load 3 t18
    intro a wx hT hF _ K hK
    replace hK := fun v w' (h : NewT wx w') c => hK v w' h trivial c
    obtain ⟨f18, f17, _⟩ := hF
    have f18 : ((x.kind == y.kind) && (x.saga == y.saga)) = true → a.tmps.getD 18 undef = .pointer (some ⟨w.heap.size, 2, none⟩) := f18
    have f17 : a.tmps.getD 17 undef = .bool ((x.kind == y.kind) && (x.saga == y.saga)) := f17
    refine rely_on (rely_gt f17) (fun hE => ?_) (fun hE => hK _ _ (NewT.refl _) (svIf_off hE))
    replace hK := fun v w' (h : NewT wx w') (c : (SV.eq (.int .i64 (x.seq))).pred v w') => hK v w' h (fun _ => c)
    exact opr_ldI (hT.row R1.out) (by decide) rfl rfl (f18 hE) (hK _ _ (NewT.refl _) rfl)
  · -- 15: Op.fieldAddr 27 t3 2
    intro a wx hT hF _ K hK
    replace hK := fun v w' (h : NewT wx w') c => hK v w' h trivial c
    obtain ⟨f3, f17, _⟩ := hF
    have f3 : a.tmps.getD 3 undef = .pointer (some ⟨w.heap.size + 1, 0, none⟩) := f3
    have f17 : a.tmps.getD 17 undef = .bool ((x.kind == y.kind) && (x.saga == y.saga)) := f17
    refine rely_on (rely_gt f17) (fun hE => ?_) (fun hE => hK _ _ (NewT.refl _) (svIf_off hE))
    replace hK := fun v w' (h : NewT wx w') (c : (SV.eq (.pointer (some ⟨w.heap.size + 1, 2, none⟩))).pred v w') => hK v w' h (fun _ => c)
    exact opr_fldR (by decide) rfl f3 (hK _ _ (NewT.refl _) rfl)
  · -- 16: Op.load 3 t20
    intro a wx hT hF _ K hK
    replace hK := fun v w' (h : NewT wx w') c => hK v w' h trivial c
    obtain ⟨f20, f17, _⟩ := hF
    have f20 : ((x.kind == y.kind) && (x.saga == y.saga)) = true → a.tmps.getD 20 undef = .pointer (some ⟨w.heap.size + 1, 2, none⟩) := f20
    have f17 : a.tmps.getD 17 undef = .bool ((x.kind == y.kind) && (x.saga == y.saga)) := f17
    refine rely_on (rely_gt f17) (fun hE => ?_) (fun hE => hK _ _ (NewT.refl _) (svIf_off hE))
    replace hK := fun v w' (h : NewT wx w') (c : (SV.eq (.int .i64 (y.seq))).pred v w') => hK v w' h (fun _ => c)
    exact opr_ldI (hT.row R2.out) (by decide) rfl rfl (f20 hE) (hK _ _ (NewT.refl _) rfl)
  · -- 17: Op.binOp BinOp.eql 3 t19 t21 3
    intro a wx hT hF _ K hK
    replace hK := fun v w' (h : NewT wx w') c => hK v w' h trivial c
    obtain ⟨f19, f21, f17, _⟩ := hF
    have f19 : ((x.kind == y.kind) && (x.saga == y.saga)) = true → a.tmps.getD 19 undef = .int .i64 (x.seq) := f19
    have f21 : ((x.kind == y.kind) && (x.saga == y.saga)) = true → a.tmps.getD 21 undef = .int .i64 (y.seq) := f21
    have f17 : a.tmps.getD 17 undef = .bool ((x.kind == y.kind) && (x.saga == y.saga)) := f17
    refine rely_on (rely_gt f17) (fun hE => ?_) (fun hE => hK _ _ (NewT.refl _) (svIf_off hE))
    replace hK := fun v w' (h : NewT wx w') (c : (SV.eq (.bool (x.seq == y.seq))).pred v w') => hK v w' h (fun _ => c)
    exact opr_cmp (b := x.seq == y.seq) (.inl ⟨rfl, rfl⟩) Tryd.underlying3 rfl (f19 hE) (f21 hE) (hK _ _ (NewT.refl _) rfl)
  · -- 18: Op.pick t17 t22 (const (Value.bool false))
    intro a wx hT hF _ K hK
    replace hK := fun v w' (h : NewT wx w') c => hK v w' h trivial c
    obtain ⟨f17, f22, _⟩ := hF
    have f17 : a.tmps.getD 17 undef = .bool ((x.kind == y.kind) && (x.saga == y.saga)) := f17
    have f22 : ((x.kind == y.kind) && (x.saga == y.saga)) = true → a.tmps.getD 22 undef = .bool (x.seq == y.seq) := f22
    refine rely_wp rfl ?_
    exact opr_pick_b rfl f17 (fun hb => hK _ _ (NewT.refl _) (pk_and1 (f22 hb) hb)) (fun hb => hK _ _ (NewT.refl _) (pk_and0 hb))
  · -- 19: Op.move t23
    intro a wx hT hF _ K hK
    replace hK := fun v w' (h : NewT wx w') c => hK v w' h trivial c
    obtain ⟨f23, _⟩ := hF
    have f23 : a.tmps.getD 23 undef = .bool (((x.kind == y.kind) && (x.saga == y.saga)) && (x.seq == y.seq)) := f23
    refine rely_wp rfl ?_
    exact opr_move (.inl rfl) (hK _ _ (NewT.refl _) f23)
  · -- 20: Op.fieldAddr 27 t2 3
    intro a wx hT hF _ K hK
    replace hK := fun v w' (h : NewT wx w') c => hK v w' h trivial c
    obtain ⟨f2, f24, _⟩ := hF
    have f2 : a.tmps.getD 2 undef = .pointer (some ⟨w.heap.size, 0, none⟩) := f2
    have f24 : a.tmps.getD 24 undef = .bool (((x.kind == y.kind) && (x.saga == y.saga)) && (x.seq == y.seq)) := f24
    refine rely_on (rely_gt f24) (fun hE => ?_) (fun hE => hK _ _ (NewT.refl _) (svIf_off hE))
    replace hK := fun v w' (h : NewT wx w') (c : (SV.eq (.pointer (some ⟨w.heap.size, 3, none⟩))).pred v w') => hK v w' h (fun _ => c)
    exact opr_fldR (by decide) rfl f2 (hK _ _ (NewT.refl _) rfl)
  · -- 21: Op.load 3 t25
    intro a wx hT hF _ K hK
    replace hK := fun v w' (h : NewT wx w') c => hK v w' h trivial c
    obtain ⟨f25, f24, _⟩ := hF
    have f25 : (((x.kind == y.kind) && (x.saga == y.saga)) && (x.seq == y.seq)) = true → a.tmps.getD 25 undef = .pointer (some ⟨w.heap.size, 3, none⟩) := f25
    have f24 : a.tmps.getD 24 undef = .bool (((x.kind == y.kind) && (x.saga == y.saga)) && (x.seq == y.seq)) := f24
    refine rely_on (rely_gt f24) (fun hE => ?_) (fun hE => hK _ _ (NewT.refl _) (svIf_off hE))
    replace hK := fun v w' (h : NewT wx w') (c : (SV.eq (.int .i64 (x.step))).pred v w') => hK v w' h (fun _ => c)
    exact opr_ldI (hT.row R1.out) (by decide) rfl rfl (f25 hE) (hK _ _ (NewT.refl _) rfl)
  · -- 22: Op.fieldAddr 27 t3 3
    intro a wx hT hF _ K hK
    replace hK := fun v w' (h : NewT wx w') c => hK v w' h trivial c
    obtain ⟨f3, f24, _⟩ := hF
    have f3 : a.tmps.getD 3 undef = .pointer (some ⟨w.heap.size + 1, 0, none⟩) := f3
    have f24 : a.tmps.getD 24 undef = .bool (((x.kind == y.kind) && (x.saga == y.saga)) && (x.seq == y.seq)) := f24
    refine rely_on (rely_gt f24) (fun hE => ?_) (fun hE => hK _ _ (NewT.refl _) (svIf_off hE))
    replace hK := fun v w' (h : NewT wx w') (c : (SV.eq (.pointer (some ⟨w.heap.size + 1, 3, none⟩))).pred v w') => hK v w' h (fun _ => c)
    exact opr_fldR (by decide) rfl f3 (hK _ _ (NewT.refl _) rfl)
  · -- 23: Op.load 3 t27
    intro a wx hT hF _ K hK
    replace hK := fun v w' (h : NewT wx w') c => hK v w' h trivial c
    obtain ⟨f27, f24, _⟩ := hF
    have f27 : (((x.kind == y.kind) && (x.saga == y.saga)) && (x.seq == y.seq)) = true → a.tmps.getD 27 undef = .pointer (some ⟨w.heap.size + 1, 3, none⟩) := f27
    have f24 : a.tmps.getD 24 undef = .bool (((x.kind == y.kind) && (x.saga == y.saga)) && (x.seq == y.seq)) := f24
    refine rely_on (rely_gt f24) (fun hE => ?_) (fun hE => hK _ _ (NewT.refl _) (svIf_off hE))
    replace hK := fun v w' (h : NewT wx w') (c : (SV.eq (.int .i64 (y.step))).pred v w') => hK v w' h (fun _ => c)
    exact opr_ldI (hT.row R2.out) (by decide) rfl rfl (f27 hE) (hK _ _ (NewT.refl _) rfl)
  · -- 24: Op.binOp BinOp.eql 3 t26 t28 3
    intro a wx hT hF _ K hK
    replace hK := fun v w' (h : NewT wx w') c => hK v w' h trivial c
    obtain ⟨f26, f28, f24, _⟩ := hF
    have f26 : (((x.kind == y.kind) && (x.saga == y.saga)) && (x.seq == y.seq)) = true → a.tmps.getD 26 undef = .int .i64 (x.step) := f26
    have f28 : (((x.kind == y.kind) && (x.saga == y.saga)) && (x.seq == y.seq)) = true → a.tmps.getD 28 undef = .int .i64 (y.step) := f28
    have f24 : a.tmps.getD 24 undef = .bool (((x.kind == y.kind) && (x.saga == y.saga)) && (x.seq == y.seq)) := f24
    refine rely_on (rely_gt f24) (fun hE => ?_) (fun hE => hK _ _ (NewT.refl _) (svIf_off hE))
    replace hK := fun v w' (h : NewT wx w') (c : (SV.eq (.bool (x.step == y.step))).pred v w') => hK v w' h (fun _ => c)
    exact opr_cmp (b := x.step == y.step) (.inl ⟨rfl, rfl⟩) Tryd.underlying3 rfl (f26 hE) (f28 hE) (hK _ _ (NewT.refl _) rfl)
  · -- 25: Op.pick t24 t29 (const (Value.bool false))
    intro a wx hT hF _ K hK
    replace hK := fun v w' (h : NewT wx w') c => hK v w' h trivial c
    obtain ⟨f24, f29, _⟩ := hF
    have f24 : a.tmps.getD 24 undef = .bool (((x.kind == y.kind) && (x.saga == y.saga)) && (x.seq == y.seq)) := f24
    have f29 : (((x.kind == y.kind) && (x.saga == y.saga)) && (x.seq == y.seq)) = true → a.tmps.getD 29 undef = .bool (x.step == y.step) := f29
    refine rely_wp rfl ?_
    exact opr_pick_b rfl f24 (fun hb => hK _ _ (NewT.refl _) (pk_and1 (f29 hb) hb)) (fun hb => hK _ _ (NewT.refl _) (pk_and0 hb))
  · -- 26: Op.move t30
    intro a wx hT hF _ K hK
    replace hK := fun v w' (h : NewT wx w') c => hK v w' h trivial c
    obtain ⟨f30, _⟩ := hF
    have f30 : a.tmps.getD 30 undef = .bool ((((x.kind == y.kind) && (x.saga == y.saga)) && (x.seq == y.seq)) && (x.step == y.step)) := f30
    refine rely_wp rfl ?_
    exact opr_move (.inl rfl) (hK _ _ (NewT.refl _) f30)
  · -- 27: Op.fieldAddr 27 t2 4
    intro a wx hT hF _ K hK
    replace hK := fun v w' (h : NewT wx w') c => hK v w' h trivial c
    obtain ⟨f2, f31, _⟩ := hF
    have f2 : a.tmps.getD 2 undef = .pointer (some ⟨w.heap.size, 0, none⟩) := f2
    have f31 : a.tmps.getD 31 undef = .bool ((((x.kind == y.kind) && (x.saga == y.saga)) && (x.seq == y.seq)) && (x.step == y.step)) := f31
    refine rely_on (rely_gt f31) (fun hE => ?_) (fun hE => hK _ _ (NewT.refl _) (svIf_off hE))
    replace hK := fun v w' (h : NewT wx w') (c : (SV.eq (.pointer (some ⟨w.heap.size, 4, none⟩))).pred v w') => hK v w' h (fun _ => c)
    exact opr_fldR (by decide) rfl f2 (hK _ _ (NewT.refl _) rfl)
  · -- 28: Op.load 3 t32
    intro a wx hT hF _ K hK
    replace hK := fun v w' (h : NewT wx w') c => hK v w' h trivial c
    obtain ⟨f32, f31, _⟩ := hF
    have f32 : ((((x.kind == y.kind) && (x.saga == y.saga)) && (x.seq == y.seq)) && (x.step == y.step)) = true → a.tmps.getD 32 undef = .pointer (some ⟨w.heap.size, 4, none⟩) := f32
    have f31 : a.tmps.getD 31 undef = .bool ((((x.kind == y.kind) && (x.saga == y.saga)) && (x.seq == y.seq)) && (x.step == y.step)) := f31
    refine rely_on (rely_gt f31) (fun hE => ?_) (fun hE => hK _ _ (NewT.refl _) (svIf_off hE))
    replace hK := fun v w' (h : NewT wx w') (c : (SV.eq (.int .i64 (x.tr))).pred v w') => hK v w' h (fun _ => c)
    exact opr_ldI (hT.row R1.out) (by decide) rfl rfl (f32 hE) (hK _ _ (NewT.refl _) rfl)
  · -- 29: Op.fieldAddr 27 t3 4
    intro a wx hT hF _ K hK
    replace hK := fun v w' (h : NewT wx w') c => hK v w' h trivial c
    obtain ⟨f3, f31, _⟩ := hF
    have f3 : a.tmps.getD 3 undef = .pointer (some ⟨w.heap.size + 1, 0, none⟩) := f3
    have f31 : a.tmps.getD 31 undef = .bool ((((x.kind == y.kind) && (x.saga == y.saga)) && (x.seq == y.seq)) && (x.step == y.step)) := f31
    refine rely_on (rely_gt f31) (fun hE => ?_) (fun hE => hK _ _ (NewT.refl _) (svIf_off hE))
    replace hK := fun v w' (h : NewT wx w') (c : (SV.eq (.pointer (some ⟨w.heap.size + 1, 4, none⟩))).pred v w') => hK v w' h (fun _ => c)
    exact opr_fldR (by decide) rfl f3 (hK _ _ (NewT.refl _) rfl)
  · -- 30: Op.load 3 t34
    intro a wx hT hF _ K hK
    replace hK := fun v w' (h : NewT wx w') c => hK v w' h trivial c
    obtain ⟨f34, f31, _⟩ := hF
    have f34 : ((((x.kind == y.kind) && (x.saga == y.saga)) && (x.seq == y.seq)) && (x.step == y.step)) = true → a.tmps.getD 34 undef = .pointer (some ⟨w.heap.size + 1, 4, none⟩) := f34
    have f31 : a.tmps.getD 31 undef = .bool ((((x.kind == y.kind) && (x.saga == y.saga)) && (x.seq == y.seq)) && (x.step == y.step)) := f31
    refine rely_on (rely_gt f31) (fun hE => ?_) (fun hE => hK _ _ (NewT.refl _) (svIf_off hE))
    replace hK := fun v w' (h : NewT wx w') (c : (SV.eq (.int .i64 (y.tr))).pred v w') => hK v w' h (fun _ => c)
    exact opr_ldI (hT.row R2.out) (by decide) rfl rfl (f34 hE) (hK _ _ (NewT.refl _) rfl)
  · -- 31: Op.binOp BinOp.eql 3 t33 t35 3
    intro a wx hT hF _ K hK
    replace hK := fun v w' (h : NewT wx w') c => hK v w' h trivial c
    obtain ⟨f33, f35, f31, _⟩ := hF
    have f33 : ((((x.kind == y.kind) && (x.saga == y.saga)) && (x.seq == y.seq)) && (x.step == y.step)) = true → a.tmps.getD 33 undef = .int .i64 (x.tr) := f33
    have f35 : ((((x.kind == y.kind) && (x.saga == y.saga)) && (x.seq == y.seq)) && (x.step == y.step)) = true → a.tmps.getD 35 undef = .int .i64 (y.tr) := f35
    have f31 : a.tmps.getD 31 undef = .bool ((((x.kind == y.kind) && (x.saga == y.saga)) && (x.seq == y.seq)) && (x.step == y.step)) := f31
    refine rely_on (rely_gt f31) (fun hE => ?_) (fun hE => hK _ _ (NewT.refl _) (svIf_off hE))
    replace hK := fun v w' (h : NewT wx w') (c : (SV.eq (.bool (x.tr == y.tr))).pred v w') => hK v w' h (fun _ => c)
    exact opr_cmp (b := x.tr == y.tr) (.inl ⟨rfl, rfl⟩) Tryd.underlying3 rfl (f33 hE) (f35 hE) (hK _ _ (NewT.refl _) rfl)
  · -- 32: Op.pick t31 t36 (const (Value.bool false))
    intro a wx hT hF _ K hK
    replace hK := fun v w' (h : NewT wx w') c => hK v w' h trivial c
    obtain ⟨f31, f36, _⟩ := hF
    have f31 : a.tmps.getD 31 undef = .bool ((((x.kind == y.kind) && (x.saga == y.saga)) && (x.seq == y.seq)) && (x.step == y.step)) := f31
    have f36 : ((((x.kind == y.kind) && (x.saga == y.saga)) && (x.seq == y.seq)) && (x.step == y.step)) = true → a.tmps.getD 36 undef = .bool (x.tr == y.tr) := f36
    refine rely_wp rfl ?_
    exact opr_pick_b rfl f31 (fun hb => hK _ _ (NewT.refl _) (pk_and1 (f36 hb) hb)) (fun hb => hK _ _ (NewT.refl _) (pk_and0 hb))
  · -- 33: Op.move t37
    intro a wx hT hF _ K hK
    replace hK := fun v w' (h : NewT wx w') c => hK v w' h trivial c
    obtain ⟨f37, _⟩ := hF
    have f37 : a.tmps.getD 37 undef = .bool (((((x.kind == y.kind) && (x.saga == y.saga)) && (x.seq == y.seq)) && (x.step == y.step)) && (x.tr == y.tr)) := f37
    refine rely_wp rfl ?_
    exact opr_move (.inl rfl) (hK _ _ (NewT.refl _) f37)
  · -- 34: Op.fieldAddr 27 t2 5
    intro a wx hT hF _ K hK
    replace hK := fun v w' (h : NewT wx w') c => hK v w' h trivial c
    obtain ⟨f2, f38, _⟩ := hF
    have f2 : a.tmps.getD 2 undef = .pointer (some ⟨w.heap.size, 0, none⟩) := f2
    have f38 : a.tmps.getD 38 undef = .bool (((((x.kind == y.kind) && (x.saga == y.saga)) && (x.seq == y.seq)) && (x.step == y.step)) && (x.tr == y.tr)) := f38
    refine rely_on (rely_gt f38) (fun hE => ?_) (fun hE => hK _ _ (NewT.refl _) (svIf_off hE))
    replace hK := fun v w' (h : NewT wx w') (c : (SV.eq (.pointer (some ⟨w.heap.size, 5, none⟩))).pred v w') => hK v w' h (fun _ => c)
    exact opr_fldR (by decide) rfl f2 (hK _ _ (NewT.refl _) rfl)
  · -- 35: Op.load 4 t39
    intro a wx hT hF _ K hK
    replace hK := fun v w' (h : NewT wx w') c => hK v w' h trivial c
    obtain ⟨f39, f38, _⟩ := hF
    have f39 : (((((x.kind == y.kind) && (x.saga == y.saga)) && (x.seq == y.seq)) && (x.step == y.step)) && (x.tr == y.tr)) = true → a.tmps.getD 39 undef = .pointer (some ⟨w.heap.size, 5, none⟩) := f39
    have f38 : a.tmps.getD 38 undef = .bool (((((x.kind == y.kind) && (x.saga == y.saga)) && (x.seq == y.seq)) && (x.step == y.step)) && (x.tr == y.tr)) := f38
    refine rely_on (rely_gt f38) (fun hE => ?_) (fun hE => hK _ _ (NewT.refl _) (svIf_off hE))
    replace hK := fun v w' (h : NewT wx w') (c : (SV.eq (.bool (x.back))).pred v w') => hK v w' h (fun _ => c)
    exact opr_ldQ (hT.row R1.out) (by decide) rfl rfl (f39 hE) (hK _ _ (NewT.refl _) rfl)
  · -- 36: Op.fieldAddr 27 t3 5
    intro a wx hT hF _ K hK
    replace hK := fun v w' (h : NewT wx w') c => hK v w' h trivial c
    obtain ⟨f3, f38, _⟩ := hF
    have f3 : a.tmps.getD 3 undef = .pointer (some ⟨w.heap.size + 1, 0, none⟩) := f3
    have f38 : a.tmps.getD 38 undef = .bool (((((x.kind == y.kind) && (x.saga == y.saga)) && (x.seq == y.seq)) && (x.step == y.step)) && (x.tr == y.tr)) := f38
    refine rely_on (rely_gt f38) (fun hE => ?_) (fun hE => hK _ _ (NewT.refl _) (svIf_off hE))
    replace hK := fun v w' (h : NewT wx w') (c : (SV.eq (.pointer (some ⟨w.heap.size + 1, 5, none⟩))).pred v w') => hK v w' h (fun _ => c)
    exact opr_fldR (by decide) rfl f3 (hK _ _ (NewT.refl _) rfl)
  · -- 37: Op.load 4 t41
    intro a wx hT hF _ K hK
    replace hK := fun v w' (h : NewT wx w') c => hK v w' h trivial c
    obtain ⟨f41, f38, _⟩ := hF
    have f41 : (((((x.kind == y.kind) && (x.saga == y.saga)) && (x.seq == y.seq)) && (x.step == y.step)) && (x.tr == y.tr)) = true → a.tmps.getD 41 undef = .pointer (some ⟨w.heap.size + 1, 5, none⟩) := f41
    have f38 : a.tmps.getD 38 undef = .bool (((((x.kind == y.kind) && (x.saga == y.saga)) && (x.seq == y.seq)) && (x.step == y.step)) && (x.tr == y.tr)) := f38
    refine rely_on (rely_gt f38) (fun hE => ?_) (fun hE => hK _ _ (NewT.refl _) (svIf_off hE))
    replace hK := fun v w' (h : NewT wx w') (c : (SV.eq (.bool (y.back))).pred v w') => hK v w' h (fun _ => c)
    exact opr_ldQ (hT.row R2.out) (by decide) rfl rfl (f41 hE) (hK _ _ (NewT.refl _) rfl)
  · -- 38: Op.binOp BinOp.eql 4 t40 t42 4
    intro a wx hT hF _ K hK
    replace hK := fun v w' (h : NewT wx w') c => hK v w' h trivial c
    obtain ⟨f40, f42, f38, _⟩ := hF
    have f40 : (((((x.kind == y.kind) && (x.saga == y.saga)) && (x.seq == y.seq)) && (x.step == y.step)) && (x.tr == y.tr)) = true → a.tmps.getD 40 undef = .bool (x.back) := f40
    have f42 : (((((x.kind == y.kind) && (x.saga == y.saga)) && (x.seq == y.seq)) && (x.step == y.step)) && (x.tr == y.tr)) = true → a.tmps.getD 42 undef = .bool (y.back) := f42
    have f38 : a.tmps.getD 38 undef = .bool (((((x.kind == y.kind) && (x.saga == y.saga)) && (x.seq == y.seq)) && (x.step == y.step)) && (x.tr == y.tr)) := f38
    refine rely_on (rely_gt f38) (fun hE => ?_) (fun hE => hK _ _ (NewT.refl _) (svIf_off hE))
    replace hK := fun v w' (h : NewT wx w') (c : (SV.eq (.bool (x.back == y.back))).pred v w') => hK v w' h (fun _ => c)
    exact opr_eqlQ (b := x.back == y.back) (rfl) rfl (f40 hE) (f42 hE) (hK _ _ (NewT.refl _) rfl)
  · -- 39: Op.pick t38 t43 (const (Value.bool false))
    intro a wx hT hF _ K hK
    replace hK := fun v w' (h : NewT wx w') c => hK v w' h trivial c
    obtain ⟨f38, f43, _⟩ := hF
    have f38 : a.tmps.getD 38 undef = .bool (((((x.kind == y.kind) && (x.saga == y.saga)) && (x.seq == y.seq)) && (x.step == y.step)) && (x.tr == y.tr)) := f38
    have f43 : (((((x.kind == y.kind) && (x.saga == y.saga)) && (x.seq == y.seq)) && (x.step == y.step)) && (x.tr == y.tr)) = true → a.tmps.getD 43 undef = .bool (x.back == y.back) := f43
    refine rely_wp rfl ?_
    exact opr_pick_b rfl f38 (fun hb => hK _ _ (NewT.refl _) (pk_and1 (f43 hb) hb)) (fun hb => hK _ _ (NewT.refl _) (pk_and0 hb))
  · -- 40: Op.move t44
    intro a wx hT hF _ K hK
    replace hK := fun v w' (h : NewT wx w') c => hK v w' h trivial c
    obtain ⟨f44, _⟩ := hF
    have f44 : a.tmps.getD 44 undef = .bool ((((((x.kind == y.kind) && (x.saga == y.saga)) && (x.seq == y.seq)) && (x.step == y.step)) && (x.tr == y.tr)) && (x.back == y.back)) := f44
    refine rely_wp rfl ?_
    exact opr_move (.inl rfl) (hK _ _ (NewT.refl _) f44)
  · -- 41: Op.fieldAddr 27 t2 6
    intro a wx hT hF _ K hK
    replace hK := fun v w' (h : NewT wx w') c => hK v w' h trivial c
    obtain ⟨f2, f45, _⟩ := hF
    have f2 : a.tmps.getD 2 undef = .pointer (some ⟨w.heap.size, 0, none⟩) := f2
    have f45 : a.tmps.getD 45 undef = .bool ((((((x.kind == y.kind) && (x.saga == y.saga)) && (x.seq == y.seq)) && (x.step == y.step)) && (x.tr == y.tr)) && (x.back == y.back)) := f45
    refine rely_on (rely_gt f45) (fun hE => ?_) (fun hE => hK _ _ (NewT.refl _) (svIf_off hE))
    replace hK := fun v w' (h : NewT wx w') (c : (SV.eq (.pointer (some ⟨w.heap.size, 6, none⟩))).pred v w') => hK v w' h (fun _ => c)
    exact opr_fldR (by decide) rfl f2 (hK _ _ (NewT.refl _) rfl)
  · -- 42: Op.load 4 t46
    intro a wx hT hF _ K hK
    replace hK := fun v w' (h : NewT wx w') c => hK v w' h trivial c
    obtain ⟨f46, f45, _⟩ := hF
    have f46 : ((((((x.kind == y.kind) && (x.saga == y.saga)) && (x.seq == y.seq)) && (x.step == y.step)) && (x.tr == y.tr)) && (x.back == y.back)) = true → a.tmps.getD 46 undef = .pointer (some ⟨w.heap.size, 6, none⟩) := f46
    have f45 : a.tmps.getD 45 undef = .bool ((((((x.kind == y.kind) && (x.saga == y.saga)) && (x.seq == y.seq)) && (x.step == y.step)) && (x.tr == y.tr)) && (x.back == y.back)) := f45
    refine rely_on (rely_gt f45) (fun hE => ?_) (fun hE => hK _ _ (NewT.refl _) (svIf_off hE))
    replace hK := fun v w' (h : NewT wx w') (c : (SV.eq (.bool (x.good))).pred v w') => hK v w' h (fun _ => c)
    exact opr_ldQ (hT.row R1.out) (by decide) rfl rfl (f46 hE) (hK _ _ (NewT.refl _) rfl)
  · -- 43: Op.fieldAddr 27 t3 6
    intro a wx hT hF _ K hK
    replace hK := fun v w' (h : NewT wx w') c => hK v w' h trivial c
    obtain ⟨f3, f45, _⟩ := hF
    have f3 : a.tmps.getD 3 undef = .pointer (some ⟨w.heap.size + 1, 0, none⟩) := f3
    have f45 : a.tmps.getD 45 undef = .bool ((((((x.kind == y.kind) && (x.saga == y.saga)) && (x.seq == y.seq)) && (x.step == y.step)) && (x.tr == y.tr)) && (x.back == y.back)) := f45
    refine rely_on (rely_gt f45) (fun hE => ?_) (fun hE => hK _ _ (NewT.refl _) (svIf_off hE))
    replace hK := fun v w' (h : NewT wx w') (c : (SV.eq (.pointer (some ⟨w.heap.size + 1, 6, none⟩))).pred v w') => hK v w' h (fun _ => c)
    exact opr_fldR (by decide) rfl f3 (hK _ _ (NewT.refl _) rfl)
  · -- 44: Op.load 4 t48
    intro a wx hT hF _ K hK
    replace hK := fun v w' (h : NewT wx w') c => hK v w' h trivial c
    obtain ⟨f48, f45, _⟩ := hF
    have f48 : ((((((x.kind == y.kind) && (x.saga == y.saga)) && (x.seq == y.seq)) && (x.step == y.step)) && (x.tr == y.tr)) && (x.back == y.back)) = true → a.tmps.getD 48 undef = .pointer (some ⟨w.heap.size + 1, 6, none⟩) := f48
    have f45 : a.tmps.getD 45 undef = .bool ((((((x.kind == y.kind) && (x.saga == y.saga)) && (x.seq == y.seq)) && (x.step == y.step)) && (x.tr == y.tr)) && (x.back == y.back)) := f45
    refine rely_on (rely_gt f45) (fun hE => ?_) (fun hE => hK _ _ (NewT.refl _) (svIf_off hE))
    replace hK := fun v w' (h : NewT wx w') (c : (SV.eq (.bool (y.good))).pred v w') => hK v w' h (fun _ => c)
    exact opr_ldQ (hT.row R2.out) (by decide) rfl rfl (f48 hE) (hK _ _ (NewT.refl _) rfl)
  · -- 45: Op.binOp BinOp.eql 4 t47 t49 4
    intro a wx hT hF _ K hK
    replace hK := fun v w' (h : NewT wx w') c => hK v w' h trivial c
    obtain ⟨f47, f49, f45, _⟩ := hF
    have f47 : ((((((x.kind == y.kind) && (x.saga == y.saga)) && (x.seq == y.seq)) && (x.step == y.step)) && (x.tr == y.tr)) && (x.back == y.back)) = true → a.tmps.getD 47 undef = .bool (x.good) := f47
    have f49 : ((((((x.kind == y.kind) && (x.saga == y.saga)) && (x.seq == y.seq)) && (x.step == y.step)) && (x.tr == y.tr)) && (x.back == y.back)) = true → a.tmps.getD 49 undef = .bool (y.good) := f49
    have f45 : a.tmps.getD 45 undef = .bool ((((((x.kind == y.kind) && (x.saga == y.saga)) && (x.seq == y.seq)) && (x.step == y.step)) && (x.tr == y.tr)) && (x.back == y.back)) := f45
    refine rely_on (rely_gt f45) (fun hE => ?_) (fun hE => hK _ _ (NewT.refl _) (svIf_off hE))
    replace hK := fun v w' (h : NewT wx w') (c : (SV.eq (.bool (x.good == y.good))).pred v w') => hK v w' h (fun _ => c)
    exact opr_eqlQ (b := x.good == y.good) (rfl) rfl (f47 hE) (f49 hE) (hK _ _ (NewT.refl _) rfl)
  · -- 46: Op.pick t45 t50 (const (Value.bool false))
    intro a wx hT hF _ K hK
    replace hK := fun v w' (h : NewT wx w') c => hK v w' h trivial c
    obtain ⟨f45, f50, _⟩ := hF
    have f45 : a.tmps.getD 45 undef = .bool ((((((x.kind == y.kind) && (x.saga == y.saga)) && (x.seq == y.seq)) && (x.step == y.step)) && (x.tr == y.tr)) && (x.back == y.back)) := f45
    have f50 : ((((((x.kind == y.kind) && (x.saga == y.saga)) && (x.seq == y.seq)) && (x.step == y.step)) && (x.tr == y.tr)) && (x.back == y.back)) = true → a.tmps.getD 50 undef = .bool (x.good == y.good) := f50
    refine rely_wp rfl ?_
    exact opr_pick_b rfl f45 (fun hb => hK _ _ (NewT.refl _) (pk_and1 (f50 hb) hb)) (fun hb => hK _ _ (NewT.refl _) (pk_and0 hb))
  · -- 47: Op.move t51
    intro a wx hT hF _ K hK
    replace hK := fun v w' (h : NewT wx w') c => hK v w' h trivial c
    obtain ⟨f51, _⟩ := hF
    have f51 : a.tmps.getD 51 undef = .bool (((((((x.kind == y.kind) && (x.saga == y.saga)) && (x.seq == y.seq)) && (x.step == y.step)) && (x.tr == y.tr)) && (x.back == y.back)) && (x.good == y.good)) := f51
    refine rely_wp rfl ?_
    exact opr_move (.inl rfl) (hK _ _ (NewT.refl _) f51)
  · -- 48: Op.fieldAddr 27 t2 7
    intro a wx hT hF _ K hK
    replace hK := fun v w' (h : NewT wx w') c => hK v w' h trivial c
    obtain ⟨f2, f52, _⟩ := hF
    have f2 : a.tmps.getD 2 undef = .pointer (some ⟨w.heap.size, 0, none⟩) := f2
    have f52 : a.tmps.getD 52 undef = .bool (((((((x.kind == y.kind) && (x.saga == y.saga)) && (x.seq == y.seq)) && (x.step == y.step)) && (x.tr == y.tr)) && (x.back == y.back)) && (x.good == y.good)) := f52
    refine rely_on (rely_gt f52) (fun hE => ?_) (fun hE => hK _ _ (NewT.refl _) (svIf_off hE))
    replace hK := fun v w' (h : NewT wx w') (c : (SV.eq (.pointer (some ⟨w.heap.size, 7, none⟩))).pred v w') => hK v w' h (fun _ => c)
    exact opr_fldR (by decide) rfl f2 (hK _ _ (NewT.refl _) rfl)
  · -- 49: Op.load 3 t53
    intro a wx hT hF _ K hK
    replace hK := fun v w' (h : NewT wx w') c => hK v w' h trivial c
    obtain ⟨f53, f52, _⟩ := hF
    have f53 : (((((((x.kind == y.kind) && (x.saga == y.saga)) && (x.seq == y.seq)) && (x.step == y.step)) && (x.tr == y.tr)) && (x.back == y.back)) && (x.good == y.good)) = true → a.tmps.getD 53 undef = .pointer (some ⟨w.heap.size, 7, none⟩) := f53
    have f52 : a.tmps.getD 52 undef = .bool (((((((x.kind == y.kind) && (x.saga == y.saga)) && (x.seq == y.seq)) && (x.step == y.step)) && (x.tr == y.tr)) && (x.back == y.back)) && (x.good == y.good)) := f52
    refine rely_on (rely_gt f52) (fun hE => ?_) (fun hE => hK _ _ (NewT.refl _) (svIf_off hE))
    replace hK := fun v w' (h : NewT wx w') (c : (SV.eq (.int .i64 (x.nd))).pred v w') => hK v w' h (fun _ => c)
    exact opr_ldI (hT.row R1.out) (by decide) rfl rfl (f53 hE) (hK _ _ (NewT.refl _) rfl)
  · -- 50: Op.fieldAddr 27 t3 7
    intro a wx hT hF _ K hK
    replace hK := fun v w' (h : NewT wx w') c => hK v w' h trivial c
    obtain ⟨f3, f52, _⟩ := hF
    have f3 : a.tmps.getD 3 undef = .pointer (some ⟨w.heap.size + 1, 0, none⟩) := f3
    have f52 : a.tmps.getD 52 undef = .bool (((((((x.kind == y.kind) && (x.saga == y.saga)) && (x.seq == y.seq)) && (x.step == y.step)) && (x.tr == y.tr)) && (x.back == y.back)) && (x.good == y.good)) := f52
    refine rely_on (rely_gt f52) (fun hE => ?_) (fun hE => hK _ _ (NewT.refl _) (svIf_off hE))
    replace hK := fun v w' (h : NewT wx w') (c : (SV.eq (.pointer (some ⟨w.heap.size + 1, 7, none⟩))).pred v w') => hK v w' h (fun _ => c)
    exact opr_fldR (by decide) rfl f3 (hK _ _ (NewT.refl _) rfl)
  · -- 51: Op.load 3 t55
    intro a wx hT hF _ K hK
    replace hK := fun v w' (h : NewT wx w') c => hK v w' h trivial c
    obtain ⟨f55, f52, _⟩ := hF
    have f55 : (((((((x.kind == y.kind) && (x.saga == y.saga)) && (x.seq == y.seq)) && (x.step == y.step)) && (x.tr == y.tr)) && (x.back == y.back)) && (x.good == y.good)) = true → a.tmps.getD 55 undef = .pointer (some ⟨w.heap.size + 1, 7, none⟩) := f55
    have f52 : a.tmps.getD 52 undef = .bool (((((((x.kind == y.kind) && (x.saga == y.saga)) && (x.seq == y.seq)) && (x.step == y.step)) && (x.tr == y.tr)) && (x.back == y.back)) && (x.good == y.good)) := f52
    refine rely_on (rely_gt f52) (fun hE => ?_) (fun hE => hK _ _ (NewT.refl _) (svIf_off hE))
    replace hK := fun v w' (h : NewT wx w') (c : (SV.eq (.int .i64 (y.nd))).pred v w') => hK v w' h (fun _ => c)
    exact opr_ldI (hT.row R2.out) (by decide) rfl rfl (f55 hE) (hK _ _ (NewT.refl _) rfl)
  · -- 52: Op.binOp BinOp.eql 3 t54 t56 3
    intro a wx hT hF _ K hK
    replace hK := fun v w' (h : NewT wx w') c => hK v w' h trivial c
    obtain ⟨f54, f56, f52, _⟩ := hF
    have f54 : (((((((x.kind == y.kind) && (x.saga == y.saga)) && (x.seq == y.seq)) && (x.step == y.step)) && (x.tr == y.tr)) && (x.back == y.back)) && (x.good == y.good)) = true → a.tmps.getD 54 undef = .int .i64 (x.nd) := f54
    have f56 : (((((((x.kind == y.kind) && (x.saga == y.saga)) && (x.seq == y.seq)) && (x.step == y.step)) && (x.tr == y.tr)) && (x.back == y.back)) && (x.good == y.good)) = true → a.tmps.getD 56 undef = .int .i64 (y.nd) := f56
    have f52 : a.tmps.getD 52 undef = .bool (((((((x.kind == y.kind) && (x.saga == y.saga)) && (x.seq == y.seq)) && (x.step == y.step)) && (x.tr == y.tr)) && (x.back == y.back)) && (x.good == y.good)) := f52
    refine rely_on (rely_gt f52) (fun hE => ?_) (fun hE => hK _ _ (NewT.refl _) (svIf_off hE))
    replace hK := fun v w' (h : NewT wx w') (c : (SV.eq (.bool (x.nd == y.nd))).pred v w') => hK v w' h (fun _ => c)
    exact opr_cmp (b := x.nd == y.nd) (.inl ⟨rfl, rfl⟩) Tryd.underlying3 rfl (f54 hE) (f56 hE) (hK _ _ (NewT.refl _) rfl)
  · -- 53: Op.pick t52 t57 (const (Value.bool false))
    intro a wx hT hF _ K hK
    replace hK := fun v w' (h : NewT wx w') c => hK v w' h trivial c
    obtain ⟨f52, f57, _⟩ := hF
    have f52 : a.tmps.getD 52 undef = .bool (((((((x.kind == y.kind) && (x.saga == y.saga)) && (x.seq == y.seq)) && (x.step == y.step)) && (x.tr == y.tr)) && (x.back == y.back)) && (x.good == y.good)) := f52
    have f57 : (((((((x.kind == y.kind) && (x.saga == y.saga)) && (x.seq == y.seq)) && (x.step == y.step)) && (x.tr == y.tr)) && (x.back == y.back)) && (x.good == y.good)) = true → a.tmps.getD 57 undef = .bool (x.nd == y.nd) := f57
    refine rely_wp rfl ?_
    exact opr_pick_b rfl f52 (fun hb => hK _ _ (NewT.refl _) (pk_and1 (f57 hb) hb)) (fun hb => hK _ _ (NewT.refl _) (pk_and0 hb))
  · -- 54: Op.move t58
    intro a wx hT hF _ K hK
    replace hK := fun v w' (h : NewT wx w') c => hK v w' h trivial c
    obtain ⟨f58, _⟩ := hF
    have f58 : a.tmps.getD 58 undef = .bool ((((((((x.kind == y.kind) && (x.saga == y.saga)) && (x.seq == y.seq)) && (x.step == y.step)) && (x.tr == y.tr)) && (x.back == y.back)) && (x.good == y.good)) && (x.nd == y.nd)) := f58
    refine rely_wp rfl ?_
    exact opr_move (.inl rfl) (hK _ _ (NewT.refl _) f58)
  · -- 55: Op.fieldAddr 27 t2 8
    intro a wx hT hF _ K hK
    replace hK := fun v w' (h : NewT wx w') c => hK v w' h trivial c
    obtain ⟨f2, f59, _⟩ := hF
    have f2 : a.tmps.getD 2 undef = .pointer (some ⟨w.heap.size, 0, none⟩) := f2
    have f59 : a.tmps.getD 59 undef = .bool ((((((((x.kind == y.kind) && (x.saga == y.saga)) && (x.seq == y.seq)) && (x.step == y.step)) && (x.tr == y.tr)) && (x.back == y.back)) && (x.good == y.good)) && (x.nd == y.nd)) := f59
    refine rely_on (rely_gt f59) (fun hE => ?_) (fun hE => hK _ _ (NewT.refl _) (svIf_off hE))
    replace hK := fun v w' (h : NewT wx w') (c : (SV.eq (.pointer (some ⟨w.heap.size, 8, none⟩))).pred v w') => hK v w' h (fun _ => c)
    exact opr_fldR (by decide) rfl f2 (hK _ _ (NewT.refl _) rfl)
  · -- 56: Op.load 3 t60
    intro a wx hT hF _ K hK
    replace hK := fun v w' (h : NewT wx w') c => hK v w' h trivial c
    obtain ⟨f60, f59, _⟩ := hF
    have f60 : ((((((((x.kind == y.kind) && (x.saga == y.saga)) && (x.seq == y.seq)) && (x.step == y.step)) && (x.tr == y.tr)) && (x.back == y.back)) && (x.good == y.good)) && (x.nd == y.nd)) = true → a.tmps.getD 60 undef = .pointer (some ⟨w.heap.size, 8, none⟩) := f60
    have f59 : a.tmps.getD 59 undef = .bool ((((((((x.kind == y.kind) && (x.saga == y.saga)) && (x.seq == y.seq)) && (x.step == y.step)) && (x.tr == y.tr)) && (x.back == y.back)) && (x.good == y.good)) && (x.nd == y.nd)) := f59
    refine rely_on (rely_gt f59) (fun hE => ?_) (fun hE => hK _ _ (NewT.refl _) (svIf_off hE))
    replace hK := fun v w' (h : NewT wx w') (c : (SV.eq (.int .i64 (x.part))).pred v w') => hK v w' h (fun _ => c)
    exact opr_ldI (hT.row R1.out) (by decide) rfl rfl (f60 hE) (hK _ _ (NewT.refl _) rfl)
  · -- 57: Op.fieldAddr 27 t3 8
    intro a wx hT hF _ K hK
    replace hK := fun v w' (h : NewT wx w') c => hK v w' h trivial c
    obtain ⟨f3, f59, _⟩ := hF
    have f3 : a.tmps.getD 3 undef = .pointer (some ⟨w.heap.size + 1, 0, none⟩) := f3
    have f59 : a.tmps.getD 59 undef = .bool ((((((((x.kind == y.kind) && (x.saga == y.saga)) && (x.seq == y.seq)) && (x.step == y.step)) && (x.tr == y.tr)) && (x.back == y.back)) && (x.good == y.good)) && (x.nd == y.nd)) := f59
    refine rely_on (rely_gt f59) (fun hE => ?_) (fun hE => hK _ _ (NewT.refl _) (svIf_off hE))
    replace hK := fun v w' (h : NewT wx w') (c : (SV.eq (.pointer (some ⟨w.heap.size + 1, 8, none⟩))).pred v w') => hK v w' h (fun _ => c)
    exact opr_fldR (by decide) rfl f3 (hK _ _ (NewT.refl _) rfl)
  · -- 58: Op.load 3 t62
    intro a wx hT hF _ K hK
    replace hK := fun v w' (h : NewT wx w') c => hK v w' h trivial c
    obtain ⟨f62, f59, _⟩ := hF
    have f62 : ((((((((x.kind == y.kind) && (x.saga == y.saga)) && (x.seq == y.seq)) && (x.step == y.step)) && (x.tr == y.tr)) && (x.back == y.back)) && (x.good == y.good)) && (x.nd == y.nd)) = true → a.tmps.getD 62 undef = .pointer (some ⟨w.heap.size + 1, 8, none⟩) := f62
    have f59 : a.tmps.getD 59 undef = .bool ((((((((x.kind == y.kind) && (x.saga == y.saga)) && (x.seq == y.seq)) && (x.step == y.step)) && (x.tr == y.tr)) && (x.back == y.back)) && (x.good == y.good)) && (x.nd == y.nd)) := f59
    refine rely_on (rely_gt f59) (fun hE => ?_) (fun hE => hK _ _ (NewT.refl _) (svIf_off hE))
    replace hK := fun v w' (h : NewT wx w') (c : (SV.eq (.int .i64 (y.part))).pred v w') => hK v w' h (fun _ => c)
    exact opr_ldI (hT.row R2.out) (by decide) rfl rfl (f62 hE) (hK _ _ (NewT.refl _) rfl)
  · -- 59: Op.binOp BinOp.eql 3 t61 t63 3
    intro a wx hT hF _ K hK
    replace hK := fun v w' (h : NewT wx w') c => hK v w' h trivial c
    obtain ⟨f61, f63, f59, _⟩ := hF
    have f61 : ((((((((x.kind == y.kind) && (x.saga == y.saga)) && (x.seq == y.seq)) && (x.step == y.step)) && (x.tr == y.tr)) && (x.back == y.back)) && (x.good == y.good)) && (x.nd == y.nd)) = true → a.tmps.getD 61 undef = .int .i64 (x.part) := f61
    have f63 : ((((((((x.kind == y.kind) && (x.saga == y.saga)) && (x.seq == y.seq)) && (x.step == y.step)) && (x.tr == y.tr)) && (x.back == y.back)) && (x.good == y.good)) && (x.nd == y.nd)) = true → a.tmps.getD 63 undef = .int .i64 (y.part) := f63
    have f59 : a.tmps.getD 59 undef = .bool ((((((((x.kind == y.kind) && (x.saga == y.saga)) && (x.seq == y.seq)) && (x.step == y.step)) && (x.tr == y.tr)) && (x.back == y.back)) && (x.good == y.good)) && (x.nd == y.nd)) := f59
    refine rely_on (rely_gt f59) (fun hE => ?_) (fun hE => hK _ _ (NewT.refl _) (svIf_off hE))
    replace hK := fun v w' (h : NewT wx w') (c : (SV.eq (.bool (x.part == y.part))).pred v w') => hK v w' h (fun _ => c)
    exact opr_cmp (b := x.part == y.part) (.inl ⟨rfl, rfl⟩) Tryd.underlying3 rfl (f61 hE) (f63 hE) (hK _ _ (NewT.refl _) rfl)
  · -- 60: Op.pick t59 t64 (const (Value.bool false))
    intro a wx hT hF _ K hK
    replace hK := fun v w' (h : NewT wx w') c => hK v w' h trivial c
    obtain ⟨f59, f64, _⟩ := hF
    have f59 : a.tmps.getD 59 undef = .bool ((((((((x.kind == y.kind) && (x.saga == y.saga)) && (x.seq == y.seq)) && (x.step == y.step)) && (x.tr == y.tr)) && (x.back == y.back)) && (x.good == y.good)) && (x.nd == y.nd)) := f59
    have f64 : ((((((((x.kind == y.kind) && (x.saga == y.saga)) && (x.seq == y.seq)) && (x.step == y.step)) && (x.tr == y.tr)) && (x.back == y.back)) && (x.good == y.good)) && (x.nd == y.nd)) = true → a.tmps.getD 64 undef = .bool (x.part == y.part) := f64
    refine rely_wp rfl ?_
    exact opr_pick_b rfl f59 (fun hb => hK _ _ (NewT.refl _) (pk_and1 (f64 hb) hb)) (fun hb => hK _ _ (NewT.refl _) (pk_and0 hb))
  · -- 61: Op.move t65
    intro a wx hT hF _ K hK
    replace hK := fun v w' (h : NewT wx w') c => hK v w' h trivial c
    obtain ⟨f65, _⟩ := hF
    have f65 : a.tmps.getD 65 undef = .bool (((((((((x.kind == y.kind) && (x.saga == y.saga)) && (x.seq == y.seq)) && (x.step == y.step)) && (x.tr == y.tr)) && (x.back == y.back)) && (x.good == y.good)) && (x.nd == y.nd)) && (x.part == y.part)) := f65
    refine rely_wp rfl ?_
    exact opr_move (.inl rfl) (hK _ _ (NewT.refl _) f65)
  · -- 62: Op.fieldAddr 27 t2 9
    intro a wx hT hF _ K hK
    replace hK := fun v w' (h : NewT wx w') c => hK v w' h trivial c
    obtain ⟨f2, f66, _⟩ := hF
    have f2 : a.tmps.getD 2 undef = .pointer (some ⟨w.heap.size, 0, none⟩) := f2
    have f66 : a.tmps.getD 66 undef = .bool (((((((((x.kind == y.kind) && (x.saga == y.saga)) && (x.seq == y.seq)) && (x.step == y.step)) && (x.tr == y.tr)) && (x.back == y.back)) && (x.good == y.good)) && (x.nd == y.nd)) && (x.part == y.part)) := f66
    refine rely_on (rely_gt f66) (fun hE => ?_) (fun hE => hK _ _ (NewT.refl _) (svIf_off hE))
    replace hK := fun v w' (h : NewT wx w') (c : (SV.eq (.pointer (some ⟨w.heap.size, 9, none⟩))).pred v w') => hK v w' h (fun _ => c)
    exact opr_fldR (by decide) rfl f2 (hK _ _ (NewT.refl _) rfl)
  · -- 63: Op.load 3 t67
    intro a wx hT hF _ K hK
    replace hK := fun v w' (h : NewT wx w') c => hK v w' h trivial c
    obtain ⟨f67, f66, _⟩ := hF
    have f67 : (((((((((x.kind == y.kind) && (x.saga == y.saga)) && (x.seq == y.seq)) && (x.step == y.step)) && (x.tr == y.tr)) && (x.back == y.back)) && (x.good == y.good)) && (x.nd == y.nd)) && (x.part == y.part)) = true → a.tmps.getD 67 undef = .pointer (some ⟨w.heap.size, 9, none⟩) := f67
    have f66 : a.tmps.getD 66 undef = .bool (((((((((x.kind == y.kind) && (x.saga == y.saga)) && (x.seq == y.seq)) && (x.step == y.step)) && (x.tr == y.tr)) && (x.back == y.back)) && (x.good == y.good)) && (x.nd == y.nd)) && (x.part == y.part)) := f66
    refine rely_on (rely_gt f66) (fun hE => ?_) (fun hE => hK _ _ (NewT.refl _) (svIf_off hE))
    replace hK := fun v w' (h : NewT wx w') (c : (SV.eq (.int .i64 (x.epoch))).pred v w') => hK v w' h (fun _ => c)
    exact opr_ldI (hT.row R1.out) (by decide) rfl rfl (f67 hE) (hK _ _ (NewT.refl _) rfl)
  · -- 64: Op.fieldAddr 27 t3 9
    intro a wx hT hF _ K hK
    replace hK := fun v w' (h : NewT wx w') c => hK v w' h trivial c
    obtain ⟨f3, f66, _⟩ := hF
    have f3 : a.tmps.getD 3 undef = .pointer (some ⟨w.heap.size + 1, 0, none⟩) := f3
    have f66 : a.tmps.getD 66 undef = .bool (((((((((x.kind == y.kind) && (x.saga == y.saga)) && (x.seq == y.seq)) && (x.step == y.step)) && (x.tr == y.tr)) && (x.back == y.back)) && (x.good == y.good)) && (x.nd == y.nd)) && (x.part == y.part)) := f66
    refine rely_on (rely_gt f66) (fun hE => ?_) (fun hE => hK _ _ (NewT.refl _) (svIf_off hE))
    replace hK := fun v w' (h : NewT wx w') (c : (SV.eq (.pointer (some ⟨w.heap.size + 1, 9, none⟩))).pred v w') => hK v w' h (fun _ => c)
    exact opr_fldR (by decide) rfl f3 (hK _ _ (NewT.refl _) rfl)
  · -- 65: Op.load 3 t69
    intro a wx hT hF _ K hK
    replace hK := fun v w' (h : NewT wx w') c => hK v w' h trivial c
    obtain ⟨f69, f66, _⟩ := hF
    have f69 : (((((((((x.kind == y.kind) && (x.saga == y.saga)) && (x.seq == y.seq)) && (x.step == y.step)) && (x.tr == y.tr)) && (x.back == y.back)) && (x.good == y.good)) && (x.nd == y.nd)) && (x.part == y.part)) = true → a.tmps.getD 69 undef = .pointer (some ⟨w.heap.size + 1, 9, none⟩) := f69
    have f66 : a.tmps.getD 66 undef = .bool (((((((((x.kind == y.kind) && (x.saga == y.saga)) && (x.seq == y.seq)) && (x.step == y.step)) && (x.tr == y.tr)) && (x.back == y.back)) && (x.good == y.good)) && (x.nd == y.nd)) && (x.part == y.part)) := f66
    refine rely_on (rely_gt f66) (fun hE => ?_) (fun hE => hK _ _ (NewT.refl _) (svIf_off hE))
    replace hK := fun v w' (h : NewT wx w') (c : (SV.eq (.int .i64 (y.epoch))).pred v w') => hK v w' h (fun _ => c)
    exact opr_ldI (hT.row R2.out) (by decide) rfl rfl (f69 hE) (hK _ _ (NewT.refl _) rfl)
  · -- 66: Op.binOp BinOp.eql 3 t68 t70 3
    intro a wx hT hF _ K hK
    replace hK := fun v w' (h : NewT wx w') c => hK v w' h trivial c
    obtain ⟨f68, f70, f66, _⟩ := hF
    have f68 : (((((((((x.kind == y.kind) && (x.saga == y.saga)) && (x.seq == y.seq)) && (x.step == y.step)) && (x.tr == y.tr)) && (x.back == y.back)) && (x.good == y.good)) && (x.nd == y.nd)) && (x.part == y.part)) = true → a.tmps.getD 68 undef = .int .i64 (x.epoch) := f68
    have f70 : (((((((((x.kind == y.kind) && (x.saga == y.saga)) && (x.seq == y.seq)) && (x.step == y.step)) && (x.tr == y.tr)) && (x.back == y.back)) && (x.good == y.good)) && (x.nd == y.nd)) && (x.part == y.part)) = true → a.tmps.getD 70 undef = .int .i64 (y.epoch) := f70
    have f66 : a.tmps.getD 66 undef = .bool (((((((((x.kind == y.kind) && (x.saga == y.saga)) && (x.seq == y.seq)) && (x.step == y.step)) && (x.tr == y.tr)) && (x.back == y.back)) && (x.good == y.good)) && (x.nd == y.nd)) && (x.part == y.part)) := f66
    refine rely_on (rely_gt f66) (fun hE => ?_) (fun hE => hK _ _ (NewT.refl _) (svIf_off hE))
    replace hK := fun v w' (h : NewT wx w') (c : (SV.eq (.bool (x.epoch == y.epoch))).pred v w') => hK v w' h (fun _ => c)
    exact opr_cmp (b := x.epoch == y.epoch) (.inl ⟨rfl, rfl⟩) Tryd.underlying3 rfl (f68 hE) (f70 hE) (hK _ _ (NewT.refl _) rfl)
  · -- 67: Op.pick t66 t71 (const (Value.bool false))
    intro a wx hT hF _ K hK
    replace hK := fun v w' (h : NewT wx w') c => hK v w' h trivial c
    obtain ⟨f66, f71, _⟩ := hF
    have f66 : a.tmps.getD 66 undef = .bool (((((((((x.kind == y.kind) && (x.saga == y.saga)) && (x.seq == y.seq)) && (x.step == y.step)) && (x.tr == y.tr)) && (x.back == y.back)) && (x.good == y.good)) && (x.nd == y.nd)) && (x.part == y.part)) := f66
    have f71 : (((((((((x.kind == y.kind) && (x.saga == y.saga)) && (x.seq == y.seq)) && (x.step == y.step)) && (x.tr == y.tr)) && (x.back == y.back)) && (x.good == y.good)) && (x.nd == y.nd)) && (x.part == y.part)) = true → a.tmps.getD 71 undef = .bool (x.epoch == y.epoch) := f71
    refine rely_wp rfl ?_
    exact opr_pick_b rfl f66 (fun hb => hK _ _ (NewT.refl _) (pk_and1 (f71 hb) hb)) (fun hb => hK _ _ (NewT.refl _) (pk_and0 hb))
  · -- 68: Op.move t72
    intro a wx hT hF _ K hK
    replace hK := fun v w' (h : NewT wx w') c => hK v w' h trivial c
    obtain ⟨f72, _⟩ := hF
    have f72 : a.tmps.getD 72 undef = .bool ((((((((((x.kind == y.kind) && (x.saga == y.saga)) && (x.seq == y.seq)) && (x.step == y.step)) && (x.tr == y.tr)) && (x.back == y.back)) && (x.good == y.good)) && (x.nd == y.nd)) && (x.part == y.part)) && (x.epoch == y.epoch)) := f72
    refine rely_wp rfl ?_
    exact opr_move (.inl rfl) (hK _ _ (NewT.refl _) f72)
  · -- 69: Op.fieldAddr 27 t2 10
    intro a wx hT hF _ K hK
    replace hK := fun v w' (h : NewT wx w') c => hK v w' h trivial c
    obtain ⟨f2, f73, _⟩ := hF
    have f2 : a.tmps.getD 2 undef = .pointer (some ⟨w.heap.size, 0, none⟩) := f2
    have f73 : a.tmps.getD 73 undef = .bool ((((((((((x.kind == y.kind) && (x.saga == y.saga)) && (x.seq == y.seq)) && (x.step == y.step)) && (x.tr == y.tr)) && (x.back == y.back)) && (x.good == y.good)) && (x.nd == y.nd)) && (x.part == y.part)) && (x.epoch == y.epoch)) := f73
    refine rely_on (rely_gt f73) (fun hE => ?_) (fun hE => hK _ _ (NewT.refl _) (svIf_off hE))
    replace hK := fun v w' (h : NewT wx w') (c : (SV.eq (.pointer (some ⟨w.heap.size, 10, none⟩))).pred v w') => hK v w' h (fun _ => c)
    exact opr_fldR (by decide) rfl f2 (hK _ _ (NewT.refl _) rfl)
  · -- 70: Op.load 23 t74
    intro a wx hT hF _ K hK
    replace hK := fun v w' (h : NewT wx w') c => hK v w' h trivial c
    obtain ⟨f74, f73, _⟩ := hF
    have f74 : ((((((((((x.kind == y.kind) && (x.saga == y.saga)) && (x.seq == y.seq)) && (x.step == y.step)) && (x.tr == y.tr)) && (x.back == y.back)) && (x.good == y.good)) && (x.nd == y.nd)) && (x.part == y.part)) && (x.epoch == y.epoch)) = true → a.tmps.getD 74 undef = .pointer (some ⟨w.heap.size, 10, none⟩) := f74
    have f73 : a.tmps.getD 73 undef = .bool ((((((((((x.kind == y.kind) && (x.saga == y.saga)) && (x.seq == y.seq)) && (x.step == y.step)) && (x.tr == y.tr)) && (x.back == y.back)) && (x.good == y.good)) && (x.nd == y.nd)) && (x.part == y.part)) && (x.epoch == y.epoch)) := f73
    refine rely_on (rely_gt f73) (fun hE => ?_) (fun hE => hK _ _ (NewT.refl _) (svIf_off hE))
    replace hK := fun v w' (h : NewT wx w') (c : (SV.eq (.agg (rowA 32 (bF (x.tag))))).pred v w') => hK v w' h (fun _ => c)
    exact opr_ldH (hT.row R1.out) (by decide) (recF_tag x _ _) rfl (f74 hE) (hK _ _ (NewT.refl _) rfl)
  · -- 71: Op.fieldAddr 27 t3 10
    intro a wx hT hF _ K hK
    replace hK := fun v w' (h : NewT wx w') c => hK v w' h trivial c
    obtain ⟨f3, f73, _⟩ := hF
    have f3 : a.tmps.getD 3 undef = .pointer (some ⟨w.heap.size + 1, 0, none⟩) := f3
    have f73 : a.tmps.getD 73 undef = .bool ((((((((((x.kind == y.kind) && (x.saga == y.saga)) && (x.seq == y.seq)) && (x.step == y.step)) && (x.tr == y.tr)) && (x.back == y.back)) && (x.good == y.good)) && (x.nd == y.nd)) && (x.part == y.part)) && (x.epoch == y.epoch)) := f73
    refine rely_on (rely_gt f73) (fun hE => ?_) (fun hE => hK _ _ (NewT.refl _) (svIf_off hE))
    replace hK := fun v w' (h : NewT wx w') (c : (SV.eq (.pointer (some ⟨w.heap.size + 1, 10, none⟩))).pred v w') => hK v w' h (fun _ => c)
    exact opr_fldR (by decide) rfl f3 (hK _ _ (NewT.refl _) rfl)
  · -- 72: Op.load 23 t76
    intro a wx hT hF _ K hK
    replace hK := fun v w' (h : NewT wx w') c => hK v w' h trivial c
    obtain ⟨f76, f73, _⟩ := hF
    have f76 : ((((((((((x.kind == y.kind) && (x.saga == y.saga)) && (x.seq == y.seq)) && (x.step == y.step)) && (x.tr == y.tr)) && (x.back == y.back)) && (x.good == y.good)) && (x.nd == y.nd)) && (x.part == y.part)) && (x.epoch == y.epoch)) = true → a.tmps.getD 76 undef = .pointer (some ⟨w.heap.size + 1, 10, none⟩) := f76
    have f73 : a.tmps.getD 73 undef = .bool ((((((((((x.kind == y.kind) && (x.saga == y.saga)) && (x.seq == y.seq)) && (x.step == y.step)) && (x.tr == y.tr)) && (x.back == y.back)) && (x.good == y.good)) && (x.nd == y.nd)) && (x.part == y.part)) && (x.epoch == y.epoch)) := f73
    refine rely_on (rely_gt f73) (fun hE => ?_) (fun hE => hK _ _ (NewT.refl _) (svIf_off hE))
    replace hK := fun v w' (h : NewT wx w') (c : (SV.eq (.agg (rowA 32 (bF (y.tag))))).pred v w') => hK v w' h (fun _ => c)
    exact opr_ldH (hT.row R2.out) (by decide) (recF_tag y _ _) rfl (f76 hE) (hK _ _ (NewT.refl _) rfl)
  · -- 73: Op.binOp BinOp.eql 23 t75 t77 23
    intro a wx hT hF _ K hK
    replace hK := fun v w' (h : NewT wx w') c => hK v w' h trivial c
    obtain ⟨f75, f77, f73, _⟩ := hF
    have f75 : ((((((((((x.kind == y.kind) && (x.saga == y.saga)) && (x.seq == y.seq)) && (x.step == y.step)) && (x.tr == y.tr)) && (x.back == y.back)) && (x.good == y.good)) && (x.nd == y.nd)) && (x.part == y.part)) && (x.epoch == y.epoch)) = true → a.tmps.getD 75 undef = .agg (rowA 32 (bF (x.tag))) := f75
    have f77 : ((((((((((x.kind == y.kind) && (x.saga == y.saga)) && (x.seq == y.seq)) && (x.step == y.step)) && (x.tr == y.tr)) && (x.back == y.back)) && (x.good == y.good)) && (x.nd == y.nd)) && (x.part == y.part)) && (x.epoch == y.epoch)) = true → a.tmps.getD 77 undef = .agg (rowA 32 (bF (y.tag))) := f77
    have f73 : a.tmps.getD 73 undef = .bool ((((((((((x.kind == y.kind) && (x.saga == y.saga)) && (x.seq == y.seq)) && (x.step == y.step)) && (x.tr == y.tr)) && (x.back == y.back)) && (x.good == y.good)) && (x.nd == y.nd)) && (x.part == y.part)) && (x.epoch == y.epoch)) := f73
    refine rely_on (rely_gt f73) (fun hE => ?_) (fun hE => hK _ _ (NewT.refl _) (svIf_off hE))
    replace hK := fun v w' (h : NewT wx w') (c : (SV.eq (.bool (eqH (x.tag) (y.tag)))).pred v w') => hK v w' h (fun _ => c)
    exact opr_eql_hash (b := eqH (x.tag) (y.tag)) rfl (f75 hE) (f77 hE) (rfl) (hK _ _ (NewT.refl _) rfl)
  · -- 74: Op.pick t73 t78 (const (Value.bool false))
    intro a wx hT hF _ K hK
    replace hK := fun v w' (h : NewT wx w') c => hK v w' h trivial c
    obtain ⟨f73, f78, _⟩ := hF
    have f73 : a.tmps.getD 73 undef = .bool ((((((((((x.kind == y.kind) && (x.saga == y.saga)) && (x.seq == y.seq)) && (x.step == y.step)) && (x.tr == y.tr)) && (x.back == y.back)) && (x.good == y.good)) && (x.nd == y.nd)) && (x.part == y.part)) && (x.epoch == y.epoch)) := f73
    have f78 : ((((((((((x.kind == y.kind) && (x.saga == y.saga)) && (x.seq == y.seq)) && (x.step == y.step)) && (x.tr == y.tr)) && (x.back == y.back)) && (x.good == y.good)) && (x.nd == y.nd)) && (x.part == y.part)) && (x.epoch == y.epoch)) = true → a.tmps.getD 78 undef = .bool (eqH (x.tag) (y.tag)) := f78
    refine rely_wp rfl ?_
    exact opr_pick_b rfl f73 (fun hb => hK _ _ (NewT.refl _) (pk_and1 (f78 hb) hb)) (fun hb => hK _ _ (NewT.refl _) (pk_and0 hb))
  · -- 75: Op.move t79
    intro a wx hT hF _ K hK
    replace hK := fun v w' (h : NewT wx w') c => hK v w' h trivial c
    obtain ⟨f79, _⟩ := hF
    have f79 : a.tmps.getD 79 undef = .bool (((((((((((x.kind == y.kind) && (x.saga == y.saga)) && (x.seq == y.seq)) && (x.step == y.step)) && (x.tr == y.tr)) && (x.back == y.back)) && (x.good == y.good)) && (x.nd == y.nd)) && (x.part == y.part)) && (x.epoch == y.epoch)) && (eqH (x.tag) (y.tag))) := f79
    refine rely_wp rfl ?_
    exact opr_move (.inl rfl) (hK _ _ (NewT.refl _) f79)
  · -- 76: Op.fieldAddr 27 t2 11
    intro a wx hT hF _ K hK
    replace hK := fun v w' (h : NewT wx w') c => hK v w' h trivial c
    obtain ⟨f2, f80, _⟩ := hF
    have f2 : a.tmps.getD 2 undef = .pointer (some ⟨w.heap.size, 0, none⟩) := f2
    have f80 : a.tmps.getD 80 undef = .bool (((((((((((x.kind == y.kind) && (x.saga == y.saga)) && (x.seq == y.seq)) && (x.step == y.step)) && (x.tr == y.tr)) && (x.back == y.back)) && (x.good == y.good)) && (x.nd == y.nd)) && (x.part == y.part)) && (x.epoch == y.epoch)) && (eqH (x.tag) (y.tag))) := f80
    refine rely_on (rely_gt f80) (fun hE => ?_) (fun hE => hK _ _ (NewT.refl _) (svIf_off hE))
    replace hK := fun v w' (h : NewT wx w') (c : (SV.eq (.pointer (some ⟨w.heap.size, 42, none⟩))).pred v w') => hK v w' h (fun _ => c)
    exact opr_fldR (by decide) rfl f2 (hK _ _ (NewT.refl _) rfl)
  · -- 77: Op.load 24 t81
    intro a wx hT hF _ K hK
    replace hK := fun v w' (h : NewT wx w') c => hK v w' h trivial c
    obtain ⟨f81, f80, _⟩ := hF
    have f81 : (((((((((((x.kind == y.kind) && (x.saga == y.saga)) && (x.seq == y.seq)) && (x.step == y.step)) && (x.tr == y.tr)) && (x.back == y.back)) && (x.good == y.good)) && (x.nd == y.nd)) && (x.part == y.part)) && (x.epoch == y.epoch)) && (eqH (x.tag) (y.tag))) = true → a.tmps.getD 81 undef = .pointer (some ⟨w.heap.size, 42, none⟩) := f81
    have f80 : a.tmps.getD 80 undef = .bool (((((((((((x.kind == y.kind) && (x.saga == y.saga)) && (x.seq == y.seq)) && (x.step == y.step)) && (x.tr == y.tr)) && (x.back == y.back)) && (x.good == y.good)) && (x.nd == y.nd)) && (x.part == y.part)) && (x.epoch == y.epoch)) && (eqH (x.tag) (y.tag))) := f80
    refine rely_on (rely_gt f80) (fun hE => ?_) (fun hE => hK _ _ (NewT.refl _) (svIf_off hE))
    replace hK := fun v w' (h : NewT wx w') (c : (SV.eq (sv)).pred v w') => hK v w' h (fun _ => c)
    exact opr_ldS (hT.row R1.out) (by decide) rfl rfl (f81 hE) (hK _ _ (NewT.refl _) rfl)
  · -- 78: Op.fieldAddr 27 t3 11
    intro a wx hT hF _ K hK
    replace hK := fun v w' (h : NewT wx w') c => hK v w' h trivial c
    obtain ⟨f3, f80, _⟩ := hF
    have f3 : a.tmps.getD 3 undef = .pointer (some ⟨w.heap.size + 1, 0, none⟩) := f3
    have f80 : a.tmps.getD 80 undef = .bool (((((((((((x.kind == y.kind) && (x.saga == y.saga)) && (x.seq == y.seq)) && (x.step == y.step)) && (x.tr == y.tr)) && (x.back == y.back)) && (x.good == y.good)) && (x.nd == y.nd)) && (x.part == y.part)) && (x.epoch == y.epoch)) && (eqH (x.tag) (y.tag))) := f80
    refine rely_on (rely_gt f80) (fun hE => ?_) (fun hE => hK _ _ (NewT.refl _) (svIf_off hE))
    replace hK := fun v w' (h : NewT wx w') (c : (SV.eq (.pointer (some ⟨w.heap.size + 1, 42, none⟩))).pred v w') => hK v w' h (fun _ => c)
    exact opr_fldR (by decide) rfl f3 (hK _ _ (NewT.refl _) rfl)
  · -- 79: Op.load 24 t83
    intro a wx hT hF _ K hK
    replace hK := fun v w' (h : NewT wx w') c => hK v w' h trivial c
    obtain ⟨f83, f80, _⟩ := hF
    have f83 : (((((((((((x.kind == y.kind) && (x.saga == y.saga)) && (x.seq == y.seq)) && (x.step == y.step)) && (x.tr == y.tr)) && (x.back == y.back)) && (x.good == y.good)) && (x.nd == y.nd)) && (x.part == y.part)) && (x.epoch == y.epoch)) && (eqH (x.tag) (y.tag))) = true → a.tmps.getD 83 undef = .pointer (some ⟨w.heap.size + 1, 42, none⟩) := f83
    have f80 : a.tmps.getD 80 undef = .bool (((((((((((x.kind == y.kind) && (x.saga == y.saga)) && (x.seq == y.seq)) && (x.step == y.step)) && (x.tr == y.tr)) && (x.back == y.back)) && (x.good == y.good)) && (x.nd == y.nd)) && (x.part == y.part)) && (x.epoch == y.epoch)) && (eqH (x.tag) (y.tag))) := f80
    refine rely_on (rely_gt f80) (fun hE => ?_) (fun hE => hK _ _ (NewT.refl _) (svIf_off hE))
    replace hK := fun v w' (h : NewT wx w') (c : (SV.eq (su)).pred v w') => hK v w' h (fun _ => c)
    exact opr_ldS (hT.row R2.out) (by decide) rfl rfl (f83 hE) (hK _ _ (NewT.refl _) rfl)
  · -- 80: Op.call ( value (Operand.func 36), args := #[t82, t84], argTypes := #[
    intro a wx hT hF _ K hK
    replace hK := fun v w' (h : NewT wx w') c => hK v w' h trivial c
    obtain ⟨f82, f84, f80, _⟩ := hF
    have f82 : (((((((((((x.kind == y.kind) && (x.saga == y.saga)) && (x.seq == y.seq)) && (x.step == y.step)) && (x.tr == y.tr)) && (x.back == y.back)) && (x.good == y.good)) && (x.nd == y.nd)) && (x.part == y.part)) && (x.epoch == y.epoch)) && (eqH (x.tag) (y.tag))) = true → a.tmps.getD 82 undef = sv := f82
    have f84 : (((((((((((x.kind == y.kind) && (x.saga == y.saga)) && (x.seq == y.seq)) && (x.step == y.step)) && (x.tr == y.tr)) && (x.back == y.back)) && (x.good == y.good)) && (x.nd == y.nd)) && (x.part == y.part)) && (x.epoch == y.epoch)) && (eqH (x.tag) (y.tag))) = true → a.tmps.getD 84 undef = su := f84
    have f80 : a.tmps.getD 80 undef = .bool (((((((((((x.kind == y.kind) && (x.saga == y.saga)) && (x.seq == y.seq)) && (x.step == y.step)) && (x.tr == y.tr)) && (x.back == y.back)) && (x.good == y.good)) && (x.nd == y.nd)) && (x.part == y.part)) && (x.epoch == y.epoch)) && (eqH (x.tag) (y.tag))) := f80
    refine rely_on (rely_gt f80) (fun hE => ?_) (fun hE => hK _ _ (NewT.refl _) (svIf_off hE))
    replace hK := fun v w' (h : NewT wx w') (c : (SV.eq (.bool (decide (x.steps = y.steps)))).pred v w') => hK v w' h (fun _ => c)
    exact opr_cv (Equal_cv _ _ x.steps y.steps wx (hT.pairs HS.out) (hT.pairs HU.out)) rfl Tryd.func36 (by kernel_rfl) (by kernel_rfl) (by simp only [List.map_toArray, List.map_cons, List.map_nil, eval_tmp, (f82 hE), (f84 hE)]) hK
  · -- 81: Op.pick t80 t85 (const (Value.bool false))
    intro a wx hT hF _ K hK
    replace hK := fun v w' (h : NewT wx w') c => hK v w' h trivial c
    obtain ⟨f80, f85, _⟩ := hF
    have f80 : a.tmps.getD 80 undef = .bool (((((((((((x.kind == y.kind) && (x.saga == y.saga)) && (x.seq == y.seq)) && (x.step == y.step)) && (x.tr == y.tr)) && (x.back == y.back)) && (x.good == y.good)) && (x.nd == y.nd)) && (x.part == y.part)) && (x.epoch == y.epoch)) && (eqH (x.tag) (y.tag))) := f80
    have f85 : (((((((((((x.kind == y.kind) && (x.saga == y.saga)) && (x.seq == y.seq)) && (x.step == y.step)) && (x.tr == y.tr)) && (x.back == y.back)) && (x.good == y.good)) && (x.nd == y.nd)) && (x.part == y.part)) && (x.epoch == y.epoch)) && (eqH (x.tag) (y.tag))) = true → a.tmps.getD 85 undef = .bool (decide (x.steps = y.steps)) := f85
    refine rely_wp rfl ?_
    exact opr_pick_b rfl f80 (fun hb => hK _ _ (NewT.refl _) (pk_and1 (f85 hb) hb)) (fun hb => hK _ _ (NewT.refl _) (pk_and0 hb))
  · -- 82: Op.move t86
    intro a wx hT hF _ K hK
    replace hK := fun v w' (h : NewT wx w') c => hK v w' h trivial c
    obtain ⟨f86, _⟩ := hF
    have f86 : a.tmps.getD 86 undef = .bool ((((((((((((x.kind == y.kind) && (x.saga == y.saga)) && (x.seq == y.seq)) && (x.step == y.step)) && (x.tr == y.tr)) && (x.back == y.back)) && (x.good == y.good)) && (x.nd == y.nd)) && (x.part == y.part)) && (x.epoch == y.epoch)) && (eqH (x.tag) (y.tag))) && (decide (x.steps = y.steps))) := f86
    refine rely_wp rfl ?_
    exact opr_move (.inl rfl) (hK _ _ (NewT.refl _) f86)
  · -- 83: Op.fieldAddr 27 t2 12
    intro a wx hT hF _ K hK
    replace hK := fun v w' (h : NewT wx w') c => hK v w' h trivial c
    obtain ⟨f2, f87, _⟩ := hF
    have f2 : a.tmps.getD 2 undef = .pointer (some ⟨w.heap.size, 0, none⟩) := f2
    have f87 : a.tmps.getD 87 undef = .bool ((((((((((((x.kind == y.kind) && (x.saga == y.saga)) && (x.seq == y.seq)) && (x.step == y.step)) && (x.tr == y.tr)) && (x.back == y.back)) && (x.good == y.good)) && (x.nd == y.nd)) && (x.part == y.part)) && (x.epoch == y.epoch)) && (eqH (x.tag) (y.tag))) && (decide (x.steps = y.steps))) := f87
    refine rely_on (rely_gt f87) (fun hE => ?_) (fun hE => hK _ _ (NewT.refl _) (svIf_off hE))
    replace hK := fun v w' (h : NewT wx w') (c : (SV.eq (.pointer (some ⟨w.heap.size, 43, none⟩))).pred v w') => hK v w' h (fun _ => c)
    exact opr_fldR (by decide) rfl f2 (hK _ _ (NewT.refl _) rfl)
  · -- 84: Op.load 25 t88
    intro a wx hT hF _ K hK
    replace hK := fun v w' (h : NewT wx w') c => hK v w' h trivial c
    obtain ⟨f88, f87, _⟩ := hF
    have f88 : ((((((((((((x.kind == y.kind) && (x.saga == y.saga)) && (x.seq == y.seq)) && (x.step == y.step)) && (x.tr == y.tr)) && (x.back == y.back)) && (x.good == y.good)) && (x.nd == y.nd)) && (x.part == y.part)) && (x.epoch == y.epoch)) && (eqH (x.tag) (y.tag))) && (decide (x.steps = y.steps))) = true → a.tmps.getD 88 undef = .pointer (some ⟨w.heap.size, 43, none⟩) := f88
    have f87 : a.tmps.getD 87 undef = .bool ((((((((((((x.kind == y.kind) && (x.saga == y.saga)) && (x.seq == y.seq)) && (x.step == y.step)) && (x.tr == y.tr)) && (x.back == y.back)) && (x.good == y.good)) && (x.nd == y.nd)) && (x.part == y.part)) && (x.epoch == y.epoch)) && (eqH (x.tag) (y.tag))) && (decide (x.steps = y.steps))) := f87
    refine rely_on (rely_gt f87) (fun hE => ?_) (fun hE => hK _ _ (NewT.refl _) (svIf_off hE))
    replace hK := fun v w' (h : NewT wx w') (c : (SV.eq (dv)).pred v w') => hK v w' h (fun _ => c)
    exact opr_ldB (hT.row R1.out) (by decide) rfl rfl (f88 hE) (hK _ _ (NewT.refl _) rfl)
  · -- 85: Op.fieldAddr 27 t3 12
    intro a wx hT hF _ K hK
    replace hK := fun v w' (h : NewT wx w') c => hK v w' h trivial c
    obtain ⟨f3, f87, _⟩ := hF
    have f3 : a.tmps.getD 3 undef = .pointer (some ⟨w.heap.size + 1, 0, none⟩) := f3
    have f87 : a.tmps.getD 87 undef = .bool ((((((((((((x.kind == y.kind) && (x.saga == y.saga)) && (x.seq == y.seq)) && (x.step == y.step)) && (x.tr == y.tr)) && (x.back == y.back)) && (x.good == y.good)) && (x.nd == y.nd)) && (x.part == y.part)) && (x.epoch == y.epoch)) && (eqH (x.tag) (y.tag))) && (decide (x.steps = y.steps))) := f87
    refine rely_on (rely_gt f87) (fun hE => ?_) (fun hE => hK _ _ (NewT.refl _) (svIf_off hE))
    replace hK := fun v w' (h : NewT wx w') (c : (SV.eq (.pointer (some ⟨w.heap.size + 1, 43, none⟩))).pred v w') => hK v w' h (fun _ => c)
    exact opr_fldR (by decide) rfl f3 (hK _ _ (NewT.refl _) rfl)
  · -- 86: Op.load 25 t90
    intro a wx hT hF _ K hK
    replace hK := fun v w' (h : NewT wx w') c => hK v w' h trivial c
    obtain ⟨f90, f87, _⟩ := hF
    have f90 : ((((((((((((x.kind == y.kind) && (x.saga == y.saga)) && (x.seq == y.seq)) && (x.step == y.step)) && (x.tr == y.tr)) && (x.back == y.back)) && (x.good == y.good)) && (x.nd == y.nd)) && (x.part == y.part)) && (x.epoch == y.epoch)) && (eqH (x.tag) (y.tag))) && (decide (x.steps = y.steps))) = true → a.tmps.getD 90 undef = .pointer (some ⟨w.heap.size + 1, 43, none⟩) := f90
    have f87 : a.tmps.getD 87 undef = .bool ((((((((((((x.kind == y.kind) && (x.saga == y.saga)) && (x.seq == y.seq)) && (x.step == y.step)) && (x.tr == y.tr)) && (x.back == y.back)) && (x.good == y.good)) && (x.nd == y.nd)) && (x.part == y.part)) && (x.epoch == y.epoch)) && (eqH (x.tag) (y.tag))) && (decide (x.steps = y.steps))) := f87
    refine rely_on (rely_gt f87) (fun hE => ?_) (fun hE => hK _ _ (NewT.refl _) (svIf_off hE))
    replace hK := fun v w' (h : NewT wx w') (c : (SV.eq (du)).pred v w') => hK v w' h (fun _ => c)
    exact opr_ldB (hT.row R2.out) (by decide) rfl rfl (f90 hE) (hK _ _ (NewT.refl _) rfl)
  · -- 87: Op.call ( value (Operand.func 37), args := #[t89, t91], argTypes := #[
    intro a wx hT hF _ K hK
    replace hK := fun v w' (h : NewT wx w') c => hK v w' h trivial c
    obtain ⟨f89, f91, f87, _⟩ := hF
    have f89 : ((((((((((((x.kind == y.kind) && (x.saga == y.saga)) && (x.seq == y.seq)) && (x.step == y.step)) && (x.tr == y.tr)) && (x.back == y.back)) && (x.good == y.good)) && (x.nd == y.nd)) && (x.part == y.part)) && (x.epoch == y.epoch)) && (eqH (x.tag) (y.tag))) && (decide (x.steps = y.steps))) = true → a.tmps.getD 89 undef = dv := f89
    have f91 : ((((((((((((x.kind == y.kind) && (x.saga == y.saga)) && (x.seq == y.seq)) && (x.step == y.step)) && (x.tr == y.tr)) && (x.back == y.back)) && (x.good == y.good)) && (x.nd == y.nd)) && (x.part == y.part)) && (x.epoch == y.epoch)) && (eqH (x.tag) (y.tag))) && (decide (x.steps = y.steps))) = true → a.tmps.getD 91 undef = du := f91
    have f87 : a.tmps.getD 87 undef = .bool ((((((((((((x.kind == y.kind) && (x.saga == y.saga)) && (x.seq == y.seq)) && (x.step == y.step)) && (x.tr == y.tr)) && (x.back == y.back)) && (x.good == y.good)) && (x.nd == y.nd)) && (x.part == y.part)) && (x.epoch == y.epoch)) && (eqH (x.tag) (y.tag))) && (decide (x.steps = y.steps))) := f87
    refine rely_on (rely_gt f87) (fun hE => ?_) (fun hE => hK _ _ (NewT.refl _) (svIf_off hE))
    replace hK := fun v w' (h : NewT wx w') (c : (SV.eq (.bool (decide (x.data = y.data)))).pred v w') => hK v w' h (fun _ => c)
    exact opr_cv (BEqual_cv _ _ x.data y.data wx (hT.rd HD.out) (hT.rd HE.out)) rfl Tryd.func37 (by kernel_rfl) (by kernel_rfl) (by simp only [List.map_toArray, List.map_cons, List.map_nil, eval_tmp, (f89 hE), (f91 hE)]) hK
  · -- 88: Op.pick t87 t92 (const (Value.bool false))
    intro a wx hT hF _ K hK
    replace hK := fun v w' (h : NewT wx w') c => hK v w' h trivial c
    obtain ⟨f87, f92, _⟩ := hF
    have f87 : a.tmps.getD 87 undef = .bool ((((((((((((x.kind == y.kind) && (x.saga == y.saga)) && (x.seq == y.seq)) && (x.step == y.step)) && (x.tr == y.tr)) && (x.back == y.back)) && (x.good == y.good)) && (x.nd == y.nd)) && (x.part == y.part)) && (x.epoch == y.epoch)) && (eqH (x.tag) (y.tag))) && (decide (x.steps = y.steps))) := f87
    have f92 : ((((((((((((x.kind == y.kind) && (x.saga == y.saga)) && (x.seq == y.seq)) && (x.step == y.step)) && (x.tr == y.tr)) && (x.back == y.back)) && (x.good == y.good)) && (x.nd == y.nd)) && (x.part == y.part)) && (x.epoch == y.epoch)) && (eqH (x.tag) (y.tag))) && (decide (x.steps = y.steps))) = true → a.tmps.getD 92 undef = .bool (decide (x.data = y.data)) := f92
    refine rely_wp rfl ?_
    exact opr_pick_b rfl f87 (fun hb => hK _ _ (NewT.refl _) (pk_and1 (f92 hb) hb)) (fun hb => hK _ _ (NewT.refl _) (pk_and0 hb))
  · -- 89: Op.move t93
    intro a wx hT hF _ K hK
    replace hK := fun v w' (h : NewT wx w') c => hK v w' h trivial c
    obtain ⟨f93, _⟩ := hF
    have f93 : a.tmps.getD 93 undef = .bool (((((((((((((x.kind == y.kind) && (x.saga == y.saga)) && (x.seq == y.seq)) && (x.step == y.step)) && (x.tr == y.tr)) && (x.back == y.back)) && (x.good == y.good)) && (x.nd == y.nd)) && (x.part == y.part)) && (x.epoch == y.epoch)) && (eqH (x.tag) (y.tag))) && (decide (x.steps = y.steps))) && (decide (x.data = y.data))) := f93
    refine rely_wp rfl ?_
    exact opr_move (.inl rfl) (hK _ _ (NewT.refl _) f93)
  · -- 90: Op.fieldAddr 27 t2 13
    intro a wx hT hF _ K hK
    replace hK := fun v w' (h : NewT wx w') c => hK v w' h trivial c
    obtain ⟨f2, f94, _⟩ := hF
    have f2 : a.tmps.getD 2 undef = .pointer (some ⟨w.heap.size, 0, none⟩) := f2
    have f94 : a.tmps.getD 94 undef = .bool (((((((((((((x.kind == y.kind) && (x.saga == y.saga)) && (x.seq == y.seq)) && (x.step == y.step)) && (x.tr == y.tr)) && (x.back == y.back)) && (x.good == y.good)) && (x.nd == y.nd)) && (x.part == y.part)) && (x.epoch == y.epoch)) && (eqH (x.tag) (y.tag))) && (decide (x.steps = y.steps))) && (decide (x.data = y.data))) := f94
    refine rely_on (rely_gt f94) (fun hE => ?_) (fun hE => hK _ _ (NewT.refl _) (svIf_off hE))
    replace hK := fun v w' (h : NewT wx w') (c : (SV.eq (.pointer (some ⟨w.heap.size, 44, none⟩))).pred v w') => hK v w' h (fun _ => c)
    exact opr_fldR (by decide) rfl f2 (hK _ _ (NewT.refl _) rfl)
  · -- 91: Op.load 23 t95
    intro a wx hT hF _ K hK
    replace hK := fun v w' (h : NewT wx w') c => hK v w' h trivial c
    obtain ⟨f95, f94, _⟩ := hF
    have f95 : (((((((((((((x.kind == y.kind) && (x.saga == y.saga)) && (x.seq == y.seq)) && (x.step == y.step)) && (x.tr == y.tr)) && (x.back == y.back)) && (x.good == y.good)) && (x.nd == y.nd)) && (x.part == y.part)) && (x.epoch == y.epoch)) && (eqH (x.tag) (y.tag))) && (decide (x.steps = y.steps))) && (decide (x.data = y.data))) = true → a.tmps.getD 95 undef = .pointer (some ⟨w.heap.size, 44, none⟩) := f95
    have f94 : a.tmps.getD 94 undef = .bool (((((((((((((x.kind == y.kind) && (x.saga == y.saga)) && (x.seq == y.seq)) && (x.step == y.step)) && (x.tr == y.tr)) && (x.back == y.back)) && (x.good == y.good)) && (x.nd == y.nd)) && (x.part == y.part)) && (x.epoch == y.epoch)) && (eqH (x.tag) (y.tag))) && (decide (x.steps = y.steps))) && (decide (x.data = y.data))) := f94
    refine rely_on (rely_gt f94) (fun hE => ?_) (fun hE => hK _ _ (NewT.refl _) (svIf_off hE))
    replace hK := fun v w' (h : NewT wx w') (c : (SV.eq (.agg (rowA 32 (bF (x.salt))))).pred v w') => hK v w' h (fun _ => c)
    exact opr_ldH (hT.row R1.out) (by decide) (recF_salt x _ _) rfl (f95 hE) (hK _ _ (NewT.refl _) rfl)
  · -- 92: Op.fieldAddr 27 t3 13
    intro a wx hT hF _ K hK
    replace hK := fun v w' (h : NewT wx w') c => hK v w' h trivial c
    obtain ⟨f3, f94, _⟩ := hF
    have f3 : a.tmps.getD 3 undef = .pointer (some ⟨w.heap.size + 1, 0, none⟩) := f3
    have f94 : a.tmps.getD 94 undef = .bool (((((((((((((x.kind == y.kind) && (x.saga == y.saga)) && (x.seq == y.seq)) && (x.step == y.step)) && (x.tr == y.tr)) && (x.back == y.back)) && (x.good == y.good)) && (x.nd == y.nd)) && (x.part == y.part)) && (x.epoch == y.epoch)) && (eqH (x.tag) (y.tag))) && (decide (x.steps = y.steps))) && (decide (x.data = y.data))) := f94
    refine rely_on (rely_gt f94) (fun hE => ?_) (fun hE => hK _ _ (NewT.refl _) (svIf_off hE))
    replace hK := fun v w' (h : NewT wx w') (c : (SV.eq (.pointer (some ⟨w.heap.size + 1, 44, none⟩))).pred v w') => hK v w' h (fun _ => c)
    exact opr_fldR (by decide) rfl f3 (hK _ _ (NewT.refl _) rfl)
  · -- 93: Op.load 23 t97
    intro a wx hT hF _ K hK
    replace hK := fun v w' (h : NewT wx w') c => hK v w' h trivial c
    obtain ⟨f97, f94, _⟩ := hF
    have f97 : (((((((((((((x.kind == y.kind) && (x.saga == y.saga)) && (x.seq == y.seq)) && (x.step == y.step)) && (x.tr == y.tr)) && (x.back == y.back)) && (x.good == y.good)) && (x.nd == y.nd)) && (x.part == y.part)) && (x.epoch == y.epoch)) && (eqH (x.tag) (y.tag))) && (decide (x.steps = y.steps))) && (decide (x.data = y.data))) = true → a.tmps.getD 97 undef = .pointer (some ⟨w.heap.size + 1, 44, none⟩) := f97
    have f94 : a.tmps.getD 94 undef = .bool (((((((((((((x.kind == y.kind) && (x.saga == y.saga)) && (x.seq == y.seq)) && (x.step == y.step)) && (x.tr == y.tr)) && (x.back == y.back)) && (x.good == y.good)) && (x.nd == y.nd)) && (x.part == y.part)) && (x.epoch == y.epoch)) && (eqH (x.tag) (y.tag))) && (decide (x.steps = y.steps))) && (decide (x.data = y.data))) := f94
    refine rely_on (rely_gt f94) (fun hE => ?_) (fun hE => hK _ _ (NewT.refl _) (svIf_off hE))
    replace hK := fun v w' (h : NewT wx w') (c : (SV.eq (.agg (rowA 32 (bF (y.salt))))).pred v w') => hK v w' h (fun _ => c)
    exact opr_ldH (hT.row R2.out) (by decide) (recF_salt y _ _) rfl (f97 hE) (hK _ _ (NewT.refl _) rfl)
  · -- 94: Op.binOp BinOp.eql 23 t96 t98 23
    intro a wx hT hF _ K hK
    replace hK := fun v w' (h : NewT wx w') c => hK v w' h trivial c
    obtain ⟨f96, f98, f94, _⟩ := hF
    have f96 : (((((((((((((x.kind == y.kind) && (x.saga == y.saga)) && (x.seq == y.seq)) && (x.step == y.step)) && (x.tr == y.tr)) && (x.back == y.back)) && (x.good == y.good)) && (x.nd == y.nd)) && (x.part == y.part)) && (x.epoch == y.epoch)) && (eqH (x.tag) (y.tag))) && (decide (x.steps = y.steps))) && (decide (x.data = y.data))) = true → a.tmps.getD 96 undef = .agg (rowA 32 (bF (x.salt))) := f96
    have f98 : (((((((((((((x.kind == y.kind) && (x.saga == y.saga)) && (x.seq == y.seq)) && (x.step == y.step)) && (x.tr == y.tr)) && (x.back == y.back)) && (x.good == y.good)) && (x.nd == y.nd)) && (x.part == y.part)) && (x.epoch == y.epoch)) && (eqH (x.tag) (y.tag))) && (decide (x.steps = y.steps))) && (decide (x.data = y.data))) = true → a.tmps.getD 98 undef = .agg (rowA 32 (bF (y.salt))) := f98
    have f94 : a.tmps.getD 94 undef = .bool (((((((((((((x.kind == y.kind) && (x.saga == y.saga)) && (x.seq == y.seq)) && (x.step == y.step)) && (x.tr == y.tr)) && (x.back == y.back)) && (x.good == y.good)) && (x.nd == y.nd)) && (x.part == y.part)) && (x.epoch == y.epoch)) && (eqH (x.tag) (y.tag))) && (decide (x.steps = y.steps))) && (decide (x.data = y.data))) := f94
    refine rely_on (rely_gt f94) (fun hE => ?_) (fun hE => hK _ _ (NewT.refl _) (svIf_off hE))
    replace hK := fun v w' (h : NewT wx w') (c : (SV.eq (.bool (eqH (x.salt) (y.salt)))).pred v w') => hK v w' h (fun _ => c)
    exact opr_eql_hash (b := eqH (x.salt) (y.salt)) rfl (f96 hE) (f98 hE) (rfl) (hK _ _ (NewT.refl _) rfl)
  · -- 95: Op.pick t94 t99 (const (Value.bool false))
    intro a wx hT hF _ K hK
    replace hK := fun v w' (h : NewT wx w') c => hK v w' h trivial c
    obtain ⟨f94, f99, _⟩ := hF
    have f94 : a.tmps.getD 94 undef = .bool (((((((((((((x.kind == y.kind) && (x.saga == y.saga)) && (x.seq == y.seq)) && (x.step == y.step)) && (x.tr == y.tr)) && (x.back == y.back)) && (x.good == y.good)) && (x.nd == y.nd)) && (x.part == y.part)) && (x.epoch == y.epoch)) && (eqH (x.tag) (y.tag))) && (decide (x.steps = y.steps))) && (decide (x.data = y.data))) := f94
    have f99 : (((((((((((((x.kind == y.kind) && (x.saga == y.saga)) && (x.seq == y.seq)) && (x.step == y.step)) && (x.tr == y.tr)) && (x.back == y.back)) && (x.good == y.good)) && (x.nd == y.nd)) && (x.part == y.part)) && (x.epoch == y.epoch)) && (eqH (x.tag) (y.tag))) && (decide (x.steps = y.steps))) && (decide (x.data = y.data))) = true → a.tmps.getD 99 undef = .bool (eqH (x.salt) (y.salt)) := f99
    refine rely_wp rfl ?_
    exact opr_pick_b rfl f94 (fun hb => hK _ _ (NewT.refl _) (pk_and1 (f99 hb) hb)) (fun hb => hK _ _ (NewT.refl _) (pk_and0 hb))
  · -- 96: Op.move t100
    intro a wx hT hF _ K hK
    replace hK := fun v w' (h : NewT wx w') c => hK v w' h trivial c
    obtain ⟨f100, _⟩ := hF
    have f100 : a.tmps.getD 100 undef = .bool ((((((((((((((x.kind == y.kind) && (x.saga == y.saga)) && (x.seq == y.seq)) && (x.step == y.step)) && (x.tr == y.tr)) && (x.back == y.back)) && (x.good == y.good)) && (x.nd == y.nd)) && (x.part == y.part)) && (x.epoch == y.epoch)) && (eqH (x.tag) (y.tag))) && (decide (x.steps = y.steps))) && (decide (x.data = y.data))) && (eqH (x.salt) (y.salt))) := f100
    refine rely_wp rfl ?_
    exact opr_move (.inl rfl) (hK _ _ (NewT.refl _) f100)
  · -- 97: Op.fieldAddr 27 t2 14
    intro a wx hT hF _ K hK
    replace hK := fun v w' (h : NewT wx w') c => hK v w' h trivial c
    obtain ⟨f2, f101, _⟩ := hF
    have f2 : a.tmps.getD 2 undef = .pointer (some ⟨w.heap.size, 0, none⟩) := f2
    have f101 : a.tmps.getD 101 undef = .bool ((((((((((((((x.kind == y.kind) && (x.saga == y.saga)) && (x.seq == y.seq)) && (x.step == y.step)) && (x.tr == y.tr)) && (x.back == y.back)) && (x.good == y.good)) && (x.nd == y.nd)) && (x.part == y.part)) && (x.epoch == y.epoch)) && (eqH (x.tag) (y.tag))) && (decide (x.steps = y.steps))) && (decide (x.data = y.data))) && (eqH (x.salt) (y.salt))) := f101
    refine rely_on (rely_gt f101) (fun hE => ?_) (fun hE => hK _ _ (NewT.refl _) (svIf_off hE))
    replace hK := fun v w' (h : NewT wx w') (c : (SV.eq (.pointer (some ⟨w.heap.size, 76, none⟩))).pred v w') => hK v w' h (fun _ => c)
    exact opr_fldR (by decide) rfl f2 (hK _ _ (NewT.refl _) rfl)
  · -- 98: Op.load 4 t102
    intro a wx hT hF _ K hK
    replace hK := fun v w' (h : NewT wx w') c => hK v w' h trivial c
    obtain ⟨f102, f101, _⟩ := hF
    have f102 : ((((((((((((((x.kind == y.kind) && (x.saga == y.saga)) && (x.seq == y.seq)) && (x.step == y.step)) && (x.tr == y.tr)) && (x.back == y.back)) && (x.good == y.good)) && (x.nd == y.nd)) && (x.part == y.part)) && (x.epoch == y.epoch)) && (eqH (x.tag) (y.tag))) && (decide (x.steps = y.steps))) && (decide (x.data = y.data))) && (eqH (x.salt) (y.salt))) = true → a.tmps.getD 102 undef = .pointer (some ⟨w.heap.size, 76, none⟩) := f102
    have f101 : a.tmps.getD 101 undef = .bool ((((((((((((((x.kind == y.kind) && (x.saga == y.saga)) && (x.seq == y.seq)) && (x.step == y.step)) && (x.tr == y.tr)) && (x.back == y.back)) && (x.good == y.good)) && (x.nd == y.nd)) && (x.part == y.part)) && (x.epoch == y.epoch)) && (eqH (x.tag) (y.tag))) && (decide (x.steps = y.steps))) && (decide (x.data = y.data))) && (eqH (x.salt) (y.salt))) := f101
    refine rely_on (rely_gt f101) (fun hE => ?_) (fun hE => hK _ _ (NewT.refl _) (svIf_off hE))
    replace hK := fun v w' (h : NewT wx w') (c : (SV.eq (.bool (x.gone))).pred v w') => hK v w' h (fun _ => c)
    exact opr_ldQ (hT.row R1.out) (by decide) rfl rfl (f102 hE) (hK _ _ (NewT.refl _) rfl)
  · -- 99: Op.fieldAddr 27 t3 14
    intro a wx hT hF _ K hK
    replace hK := fun v w' (h : NewT wx w') c => hK v w' h trivial c
    obtain ⟨f3, f101, _⟩ := hF
    have f3 : a.tmps.getD 3 undef = .pointer (some ⟨w.heap.size + 1, 0, none⟩) := f3
    have f101 : a.tmps.getD 101 undef = .bool ((((((((((((((x.kind == y.kind) && (x.saga == y.saga)) && (x.seq == y.seq)) && (x.step == y.step)) && (x.tr == y.tr)) && (x.back == y.back)) && (x.good == y.good)) && (x.nd == y.nd)) && (x.part == y.part)) && (x.epoch == y.epoch)) && (eqH (x.tag) (y.tag))) && (decide (x.steps = y.steps))) && (decide (x.data = y.data))) && (eqH (x.salt) (y.salt))) := f101
    refine rely_on (rely_gt f101) (fun hE => ?_) (fun hE => hK _ _ (NewT.refl _) (svIf_off hE))
    replace hK := fun v w' (h : NewT wx w') (c : (SV.eq (.pointer (some ⟨w.heap.size + 1, 76, none⟩))).pred v w') => hK v w' h (fun _ => c)
    exact opr_fldR (by decide) rfl f3 (hK _ _ (NewT.refl _) rfl)
  · -- 100: Op.load 4 t104
    intro a wx hT hF _ K hK
    replace hK := fun v w' (h : NewT wx w') c => hK v w' h trivial c
    obtain ⟨f104, f101, _⟩ := hF
    have f104 : ((((((((((((((x.kind == y.kind) && (x.saga == y.saga)) && (x.seq == y.seq)) && (x.step == y.step)) && (x.tr == y.tr)) && (x.back == y.back)) && (x.good == y.good)) && (x.nd == y.nd)) && (x.part == y.part)) && (x.epoch == y.epoch)) && (eqH (x.tag) (y.tag))) && (decide (x.steps = y.steps))) && (decide (x.data = y.data))) && (eqH (x.salt) (y.salt))) = true → a.tmps.getD 104 undef = .pointer (some ⟨w.heap.size + 1, 76, none⟩) := f104
    have f101 : a.tmps.getD 101 undef = .bool ((((((((((((((x.kind == y.kind) && (x.saga == y.saga)) && (x.seq == y.seq)) && (x.step == y.step)) && (x.tr == y.tr)) && (x.back == y.back)) && (x.good == y.good)) && (x.nd == y.nd)) && (x.part == y.part)) && (x.epoch == y.epoch)) && (eqH (x.tag) (y.tag))) && (decide (x.steps = y.steps))) && (decide (x.data = y.data))) && (eqH (x.salt) (y.salt))) := f101
    refine rely_on (rely_gt f101) (fun hE => ?_) (fun hE => hK _ _ (NewT.refl _) (svIf_off hE))
    replace hK := fun v w' (h : NewT wx w') (c : (SV.eq (.bool (y.gone))).pred v w') => hK v w' h (fun _ => c)
    exact opr_ldQ (hT.row R2.out) (by decide) rfl rfl (f104 hE) (hK _ _ (NewT.refl _) rfl)
  · -- 101: Op.binOp BinOp.eql 4 t103 t105 4
    intro a wx hT hF _ K hK
    replace hK := fun v w' (h : NewT wx w') c => hK v w' h trivial c
    obtain ⟨f103, f105, f101, _⟩ := hF
    have f103 : ((((((((((((((x.kind == y.kind) && (x.saga == y.saga)) && (x.seq == y.seq)) && (x.step == y.step)) && (x.tr == y.tr)) && (x.back == y.back)) && (x.good == y.good)) && (x.nd == y.nd)) && (x.part == y.part)) && (x.epoch == y.epoch)) && (eqH (x.tag) (y.tag))) && (decide (x.steps = y.steps))) && (decide (x.data = y.data))) && (eqH (x.salt) (y.salt))) = true → a.tmps.getD 103 undef = .bool (x.gone) := f103
    have f105 : ((((((((((((((x.kind == y.kind) && (x.saga == y.saga)) && (x.seq == y.seq)) && (x.step == y.step)) && (x.tr == y.tr)) && (x.back == y.back)) && (x.good == y.good)) && (x.nd == y.nd)) && (x.part == y.part)) && (x.epoch == y.epoch)) && (eqH (x.tag) (y.tag))) && (decide (x.steps = y.steps))) && (decide (x.data = y.data))) && (eqH (x.salt) (y.salt))) = true → a.tmps.getD 105 undef = .bool (y.gone) := f105
    have f101 : a.tmps.getD 101 undef = .bool ((((((((((((((x.kind == y.kind) && (x.saga == y.saga)) && (x.seq == y.seq)) && (x.step == y.step)) && (x.tr == y.tr)) && (x.back == y.back)) && (x.good == y.good)) && (x.nd == y.nd)) && (x.part == y.part)) && (x.epoch == y.epoch)) && (eqH (x.tag) (y.tag))) && (decide (x.steps = y.steps))) && (decide (x.data = y.data))) && (eqH (x.salt) (y.salt))) := f101
    refine rely_on (rely_gt f101) (fun hE => ?_) (fun hE => hK _ _ (NewT.refl _) (svIf_off hE))
    replace hK := fun v w' (h : NewT wx w') (c : (SV.eq (.bool (x.gone == y.gone))).pred v w') => hK v w' h (fun _ => c)
    exact opr_eqlQ (b := x.gone == y.gone) (rfl) rfl (f103 hE) (f105 hE) (hK _ _ (NewT.refl _) rfl)
  · -- 102: Op.pick t101 t106 (const (Value.bool false))
    intro a wx hT hF _ K hK
    replace hK := fun v w' (h : NewT wx w') c => hK v w' h trivial c
    obtain ⟨f101, f106, _⟩ := hF
    have f101 : a.tmps.getD 101 undef = .bool ((((((((((((((x.kind == y.kind) && (x.saga == y.saga)) && (x.seq == y.seq)) && (x.step == y.step)) && (x.tr == y.tr)) && (x.back == y.back)) && (x.good == y.good)) && (x.nd == y.nd)) && (x.part == y.part)) && (x.epoch == y.epoch)) && (eqH (x.tag) (y.tag))) && (decide (x.steps = y.steps))) && (decide (x.data = y.data))) && (eqH (x.salt) (y.salt))) := f101
    have f106 : ((((((((((((((x.kind == y.kind) && (x.saga == y.saga)) && (x.seq == y.seq)) && (x.step == y.step)) && (x.tr == y.tr)) && (x.back == y.back)) && (x.good == y.good)) && (x.nd == y.nd)) && (x.part == y.part)) && (x.epoch == y.epoch)) && (eqH (x.tag) (y.tag))) && (decide (x.steps = y.steps))) && (decide (x.data = y.data))) && (eqH (x.salt) (y.salt))) = true → a.tmps.getD 106 undef = .bool (x.gone == y.gone) := f106
    refine rely_wp rfl ?_
    exact opr_pick_b rfl f101 (fun hb => hK _ _ (NewT.refl _) (pk_and1 (f106 hb) hb)) (fun hb => hK _ _ (NewT.refl _) (pk_and0 hb))
  · -- 103: Op.move t107
    intro a wx hT hF _ K hK
    replace hK := fun v w' (h : NewT wx w') c => hK v w' h trivial c
    obtain ⟨f107, _⟩ := hF
    have f107 : a.tmps.getD 107 undef = .bool (((((((((((((((x.kind == y.kind) && (x.saga == y.saga)) && (x.seq == y.seq)) && (x.step == y.step)) && (x.tr == y.tr)) && (x.back == y.back)) && (x.good == y.good)) && (x.nd == y.nd)) && (x.part == y.part)) && (x.epoch == y.epoch)) && (eqH (x.tag) (y.tag))) && (decide (x.steps = y.steps))) && (decide (x.data = y.data))) && (eqH (x.salt) (y.salt))) && (x.gone == y.gone)) := f107
    refine rely_wp rfl ?_
    exact opr_move (.inl rfl) (hK _ _ (NewT.refl _) f107)
  · -- 104: Op.fieldAddr 27 t2 15
    intro a wx hT hF _ K hK
    replace hK := fun v w' (h : NewT wx w') c => hK v w' h trivial c
    obtain ⟨f2, f108, _⟩ := hF
    have f2 : a.tmps.getD 2 undef = .pointer (some ⟨w.heap.size, 0, none⟩) := f2
    have f108 : a.tmps.getD 108 undef = .bool (((((((((((((((x.kind == y.kind) && (x.saga == y.saga)) && (x.seq == y.seq)) && (x.step == y.step)) && (x.tr == y.tr)) && (x.back == y.back)) && (x.good == y.good)) && (x.nd == y.nd)) && (x.part == y.part)) && (x.epoch == y.epoch)) && (eqH (x.tag) (y.tag))) && (decide (x.steps = y.steps))) && (decide (x.data = y.data))) && (eqH (x.salt) (y.salt))) && (x.gone == y.gone)) := f108
    refine rely_on (rely_gt f108) (fun hE => ?_) (fun hE => hK _ _ (NewT.refl _) (svIf_off hE))
    replace hK := fun v w' (h : NewT wx w') (c : (SV.eq (.pointer (some ⟨w.heap.size, 77, none⟩))).pred v w') => hK v w' h (fun _ => c)
    exact opr_fldR (by decide) rfl f2 (hK _ _ (NewT.refl _) rfl)
  · -- 105: Op.load 23 t109
    intro a wx hT hF _ K hK
    replace hK := fun v w' (h : NewT wx w') c => hK v w' h trivial c
    obtain ⟨f109, f108, _⟩ := hF
    have f109 : (((((((((((((((x.kind == y.kind) && (x.saga == y.saga)) && (x.seq == y.seq)) && (x.step == y.step)) && (x.tr == y.tr)) && (x.back == y.back)) && (x.good == y.good)) && (x.nd == y.nd)) && (x.part == y.part)) && (x.epoch == y.epoch)) && (eqH (x.tag) (y.tag))) && (decide (x.steps = y.steps))) && (decide (x.data = y.data))) && (eqH (x.salt) (y.salt))) && (x.gone == y.gone)) = true → a.tmps.getD 109 undef = .pointer (some ⟨w.heap.size, 77, none⟩) := f109
    have f108 : a.tmps.getD 108 undef = .bool (((((((((((((((x.kind == y.kind) && (x.saga == y.saga)) && (x.seq == y.seq)) && (x.step == y.step)) && (x.tr == y.tr)) && (x.back == y.back)) && (x.good == y.good)) && (x.nd == y.nd)) && (x.part == y.part)) && (x.epoch == y.epoch)) && (eqH (x.tag) (y.tag))) && (decide (x.steps = y.steps))) && (decide (x.data = y.data))) && (eqH (x.salt) (y.salt))) && (x.gone == y.gone)) := f108
    refine rely_on (rely_gt f108) (fun hE => ?_) (fun hE => hK _ _ (NewT.refl _) (svIf_off hE))
    replace hK := fun v w' (h : NewT wx w') (c : (SV.eq (.agg (rowA 32 (bF (x.com))))).pred v w') => hK v w' h (fun _ => c)
    exact opr_ldH (hT.row R1.out) (by decide) (recF_com x _ _) rfl (f109 hE) (hK _ _ (NewT.refl _) rfl)
  · -- 106: Op.fieldAddr 27 t3 15
    intro a wx hT hF _ K hK
    replace hK := fun v w' (h : NewT wx w') c => hK v w' h trivial c
    obtain ⟨f3, f108, _⟩ := hF
    have f3 : a.tmps.getD 3 undef = .pointer (some ⟨w.heap.size + 1, 0, none⟩) := f3
    have f108 : a.tmps.getD 108 undef = .bool (((((((((((((((x.kind == y.kind) && (x.saga == y.saga)) && (x.seq == y.seq)) && (x.step == y.step)) && (x.tr == y.tr)) && (x.back == y.back)) && (x.good == y.good)) && (x.nd == y.nd)) && (x.part == y.part)) && (x.epoch == y.epoch)) && (eqH (x.tag) (y.tag))) && (decide (x.steps = y.steps))) && (decide (x.data = y.data))) && (eqH (x.salt) (y.salt))) && (x.gone == y.gone)) := f108
    refine rely_on (rely_gt f108) (fun hE => ?_) (fun hE => hK _ _ (NewT.refl _) (svIf_off hE))
    replace hK := fun v w' (h : NewT wx w') (c : (SV.eq (.pointer (some ⟨w.heap.size + 1, 77, none⟩))).pred v w') => hK v w' h (fun _ => c)
    exact opr_fldR (by decide) rfl f3 (hK _ _ (NewT.refl _) rfl)
  · -- 107: Op.load 23 t111
    intro a wx hT hF _ K hK
    replace hK := fun v w' (h : NewT wx w') c => hK v w' h trivial c
    obtain ⟨f111, f108, _⟩ := hF
    have f111 : (((((((((((((((x.kind == y.kind) && (x.saga == y.saga)) && (x.seq == y.seq)) && (x.step == y.step)) && (x.tr == y.tr)) && (x.back == y.back)) && (x.good == y.good)) && (x.nd == y.nd)) && (x.part == y.part)) && (x.epoch == y.epoch)) && (eqH (x.tag) (y.tag))) && (decide (x.steps = y.steps))) && (decide (x.data = y.data))) && (eqH (x.salt) (y.salt))) && (x.gone == y.gone)) = true → a.tmps.getD 111 undef = .pointer (some ⟨w.heap.size + 1, 77, none⟩) := f111
    have f108 : a.tmps.getD 108 undef = .bool (((((((((((((((x.kind == y.kind) && (x.saga == y.saga)) && (x.seq == y.seq)) && (x.step == y.step)) && (x.tr == y.tr)) && (x.back == y.back)) && (x.good == y.good)) && (x.nd == y.nd)) && (x.part == y.part)) && (x.epoch == y.epoch)) && (eqH (x.tag) (y.tag))) && (decide (x.steps = y.steps))) && (decide (x.data = y.data))) && (eqH (x.salt) (y.salt))) && (x.gone == y.gone)) := f108
    refine rely_on (rely_gt f108) (fun hE => ?_) (fun hE => hK _ _ (NewT.refl _) (svIf_off hE))
    replace hK := fun v w' (h : NewT wx w') (c : (SV.eq (.agg (rowA 32 (bF (y.com))))).pred v w') => hK v w' h (fun _ => c)
    exact opr_ldH (hT.row R2.out) (by decide) (recF_com y _ _) rfl (f111 hE) (hK _ _ (NewT.refl _) rfl)
  · -- 108: Op.binOp BinOp.eql 23 t110 t112 23
    intro a wx hT hF _ K hK
    replace hK := fun v w' (h : NewT wx w') c => hK v w' h trivial c
    obtain ⟨f110, f112, f108, _⟩ := hF
    have f110 : (((((((((((((((x.kind == y.kind) && (x.saga == y.saga)) && (x.seq == y.seq)) && (x.step == y.step)) && (x.tr == y.tr)) && (x.back == y.back)) && (x.good == y.good)) && (x.nd == y.nd)) && (x.part == y.part)) && (x.epoch == y.epoch)) && (eqH (x.tag) (y.tag))) && (decide (x.steps = y.steps))) && (decide (x.data = y.data))) && (eqH (x.salt) (y.salt))) && (x.gone == y.gone)) = true → a.tmps.getD 110 undef = .agg (rowA 32 (bF (x.com))) := f110
    have f112 : (((((((((((((((x.kind == y.kind) && (x.saga == y.saga)) && (x.seq == y.seq)) && (x.step == y.step)) && (x.tr == y.tr)) && (x.back == y.back)) && (x.good == y.good)) && (x.nd == y.nd)) && (x.part == y.part)) && (x.epoch == y.epoch)) && (eqH (x.tag) (y.tag))) && (decide (x.steps = y.steps))) && (decide (x.data = y.data))) && (eqH (x.salt) (y.salt))) && (x.gone == y.gone)) = true → a.tmps.getD 112 undef = .agg (rowA 32 (bF (y.com))) := f112
    have f108 : a.tmps.getD 108 undef = .bool (((((((((((((((x.kind == y.kind) && (x.saga == y.saga)) && (x.seq == y.seq)) && (x.step == y.step)) && (x.tr == y.tr)) && (x.back == y.back)) && (x.good == y.good)) && (x.nd == y.nd)) && (x.part == y.part)) && (x.epoch == y.epoch)) && (eqH (x.tag) (y.tag))) && (decide (x.steps = y.steps))) && (decide (x.data = y.data))) && (eqH (x.salt) (y.salt))) && (x.gone == y.gone)) := f108
    refine rely_on (rely_gt f108) (fun hE => ?_) (fun hE => hK _ _ (NewT.refl _) (svIf_off hE))
    replace hK := fun v w' (h : NewT wx w') (c : (SV.eq (.bool (eqH (x.com) (y.com)))).pred v w') => hK v w' h (fun _ => c)
    exact opr_eql_hash (b := eqH (x.com) (y.com)) rfl (f110 hE) (f112 hE) (rfl) (hK _ _ (NewT.refl _) rfl)
  · -- 109: Op.pick t108 t113 (const (Value.bool false))
    intro a wx hT hF _ K hK
    replace hK := fun v w' (h : NewT wx w') c => hK v w' h trivial c
    obtain ⟨f108, f113, _⟩ := hF
    have f108 : a.tmps.getD 108 undef = .bool (((((((((((((((x.kind == y.kind) && (x.saga == y.saga)) && (x.seq == y.seq)) && (x.step == y.step)) && (x.tr == y.tr)) && (x.back == y.back)) && (x.good == y.good)) && (x.nd == y.nd)) && (x.part == y.part)) && (x.epoch == y.epoch)) && (eqH (x.tag) (y.tag))) && (decide (x.steps = y.steps))) && (decide (x.data = y.data))) && (eqH (x.salt) (y.salt))) && (x.gone == y.gone)) := f108
    have f113 : (((((((((((((((x.kind == y.kind) && (x.saga == y.saga)) && (x.seq == y.seq)) && (x.step == y.step)) && (x.tr == y.tr)) && (x.back == y.back)) && (x.good == y.good)) && (x.nd == y.nd)) && (x.part == y.part)) && (x.epoch == y.epoch)) && (eqH (x.tag) (y.tag))) && (decide (x.steps = y.steps))) && (decide (x.data = y.data))) && (eqH (x.salt) (y.salt))) && (x.gone == y.gone)) = true → a.tmps.getD 113 undef = .bool (eqH (x.com) (y.com)) := f113
    refine rely_wp rfl ?_
    exact opr_pick_b rfl f108 (fun hb => hK _ _ (NewT.refl _) (pk_and1 (f113 hb) hb)) (fun hb => hK _ _ (NewT.refl _) (pk_and0 hb))
  · intro wx hT hJ
    clear hJ
    intro u h; obtain rfl := h (by simp); clear h
    intro u h; obtain rfl := h (by simp); clear h
    intro u h; obtain rfl := h (by simp); clear h
    intro u h; obtain rfl := h (by simp); clear h
    intro u h; obtain rfl := h (by simp); clear h
    intro u h; obtain rfl := h (by simp); clear h
    intro _ _
    intro _ _
    intro _ _
    intro _ _
    intro _ _
    intro u h; obtain rfl := h (by simp); clear h
    intro u h; obtain rfl := h (by simp); clear h
    intro _ _
    intro _ _
    intro _ _
    intro _ _
    intro _ _
    intro u h; obtain rfl := h (by simp); clear h
    intro u h; obtain rfl := h (by simp); clear h
    intro _ _
    intro _ _
    intro _ _
    intro _ _
    intro _ _
    intro u h; obtain rfl := h (by simp); clear h
    intro u h; obtain rfl := h (by simp); clear h
    intro _ _
    intro _ _
    intro _ _
    intro _ _
    intro _ _
    intro u h; obtain rfl := h (by simp); clear h
    intro u h; obtain rfl := h (by simp); clear h
    intro _ _
    intro _ _
    intro _ _
    intro _ _
    intro _ _
    intro u h; obtain rfl := h (by simp); clear h
    intro u h; obtain rfl := h (by simp); clear h
    intro _ _
    intro _ _
    intro _ _
    intro _ _
    intro _ _
    intro u h; obtain rfl := h (by simp); clear h
    intro u h; obtain rfl := h (by simp); clear h
    intro _ _
    intro _ _
    intro _ _
    intro _ _
    intro _ _
    intro u h; obtain rfl := h (by simp); clear h
    intro u h; obtain rfl := h (by simp); clear h
    intro _ _
    intro _ _
    intro _ _
    intro _ _
    intro _ _
    intro u h; obtain rfl := h (by simp); clear h
    intro u h; obtain rfl := h (by simp); clear h
    intro _ _
    intro _ _
    intro _ _
    intro _ _
    intro _ _
    intro u h; obtain rfl := h (by simp); clear h
    intro u h; obtain rfl := h (by simp); clear h
    intro _ _
    intro _ _
    intro _ _
    intro _ _
    intro _ _
    intro u h; obtain rfl := h (by simp); clear h
    intro u h; obtain rfl := h (by simp); clear h
    intro _ _
    intro _ _
    intro _ _
    intro _ _
    intro _ _
    intro u h; obtain rfl := h (by simp); clear h
    intro u h; obtain rfl := h (by simp); clear h
    intro _ _
    intro _ _
    intro _ _
    intro _ _
    intro _ _
    intro u h; obtain rfl := h (by simp); clear h
    intro u h; obtain rfl := h (by simp); clear h
    intro _ _
    intro _ _
    intro _ _
    intro _ _
    intro _ _
    intro u h; obtain rfl := h (by simp); clear h
    intro u h; obtain rfl := h (by simp); clear h
    intro _ _
    intro _ _
    intro _ _
    intro _ _
    intro _ _
    intro u h; obtain rfl := h (by simp); clear h
    intro u h; obtain rfl := h (by simp); clear h
    intro _ _
    intro _ _
    intro _ _
    intro _ _
    intro _ _
    intro u h; obtain rfl := h (by simp); clear h
    refine relyEnd_nil rfl ?_
    simp only [Act.put, List.setIfInBounds_toArray, List.set_cons_zero, List.set_cons_succ]
    refine wpList_plain rfl (fun K hK => ?_)
    refine opr_move (.inr rfl) (hK _ _ ?_)
    refine wpList_end rfl ?_
    go_simp
    go_wp2
    go_ret
    exact ⟨_, rfl, NewT.trans _ _ _ HN.out hT, rfl⟩
set_option maxHeartbeats 2000000 in
theorem RSame_cv (v1 v2 : Value) (x y : Rc) (w : World) (h1 : RecV w v1 x) (h2 : RecV w v2 y) (hl : x.data.length ≤ 1000000) (hm : y.data.length ≤ 1000000) : Cv 15 #[v1, v2] w (.eq (.bool (sameB x y))) := by
  obtain ⟨sv, dv, rfl, hs, hd⟩ := h1
  obtain ⟨su, du, rfl, hu, he⟩ := h2
  unfold Cv
  go_enter Tryd.func15, Tryd.ntmps15
  go_upto_region 1 with fail
  have r1 := (rowIs_box w 27 109 (recF x sv dv)).alloc (.cells (rowA 109 (recF y su du)) 27)
  have r2 := rowIs_box (w.alloc (.cells (rowA 109 (recF x sv dv)) 27)) 27 109 (recF y su du)
  have hN : NewT w ((w.alloc (.cells (rowA 109 (recF x sv dv)) 27)).alloc (.cells (rowA 109 (recF y su du)) 27)) := NewT.trans _ _ _ (NewT.alloc _ _) (NewT.alloc _ _)
  rw [World.size_alloc] at r2
  change Code.wp _ _ _ _ ((w.alloc (.cells (rowA 109 (recF x sv dv)) 27)).alloc (.cells (rowA 109 (recF y su du)) 27))
  generalize (w.alloc (.cells (rowA 109 (recF x sv dv)) 27)).alloc (.cells (rowA 109 (recF y su du)) 27) = W0 at r1 r2 hN ⊢
  have HS := Lib.hid (hN.pairs hs)
  have HD := Lib.hid (hN.rd hd)
  have HU := Lib.hid (hN.pairs hu)
  have HE := Lib.hid (hN.rd he)
  have R1 := Lib.hid r1
  have R2 := Lib.hid r2
  have HN := Lib.hid hN
  clear hs hd hu he r1 r2 hN
  refine wp_region_steps (NewT) (fun _ _ => True) [SV.eq (.pointer (some ⟨w.heap.size, 0, none⟩)), SV.eq (.int .i64 (x.kind)), SV.eq (.pointer (some ⟨w.heap.size + 1, 0, none⟩)), SV.eq (.int .i64 (y.kind)), SV.eq (.bool (x.kind == y.kind)), SV.eq (.bool (x.kind == y.kind)), svIf (x.kind == y.kind) (SV.eq (.pointer (some ⟨w.heap.size, 1, none⟩))), svIf (x.kind == y.kind) (SV.eq (.int .i64 (x.saga))), svIf (x.kind == y.kind) (SV.eq (.pointer (some ⟨w.heap.size + 1, 1, none⟩))), svIf (x.kind == y.kind) (SV.eq (.int .i64 (y.saga))), svIf (x.kind == y.kind) (SV.eq (.bool (x.saga == y.saga))), SV.eq (.bool ((x.kind == y.kind) && (x.saga == y.saga))), SV.eq (.bool ((x.kind == y.kind) && (x.saga == y.saga))), svIf ((x.kind == y.kind) && (x.saga == y.saga)) (SV.eq (.pointer (some ⟨w.heap.size, 2, none⟩))), svIf ((x.kind == y.kind) && (x.saga == y.saga)) (SV.eq (.int .i64 (x.seq))), svIf ((x.kind == y.kind) && (x.saga == y.saga)) (SV.eq (.pointer (some ⟨w.heap.size + 1, 2, none⟩))), svIf ((x.kind == y.kind) && (x.saga == y.saga)) (SV.eq (.int .i64 (y.seq))), svIf ((x.kind == y.kind) && (x.saga == y.saga)) (SV.eq (.bool (x.seq == y.seq))), SV.eq (.bool (((x.kind == y.kind) && (x.saga == y.saga)) && (x.seq == y.seq))), SV.eq (.bool (((x.kind == y.kind) && (x.saga == y.saga)) && (x.seq == y.seq))), svIf (((x.kind == y.kind) && (x.saga == y.saga)) && (x.seq == y.seq)) (SV.eq (.pointer (some ⟨w.heap.size, 3, none⟩))), svIf (((x.kind == y.kind) && (x.saga == y.saga)) && (x.seq == y.seq)) (SV.eq (.int .i64 (x.step))), svIf (((x.kind == y.kind) && (x.saga == y.saga)) && (x.seq == y.seq)) (SV.eq (.pointer (some ⟨w.heap.size + 1, 3, none⟩))), svIf (((x.kind == y.kind) && (x.saga == y.saga)) && (x.seq == y.seq)) (SV.eq (.int .i64 (y.step))), svIf (((x.kind == y.kind) && (x.saga == y.saga)) && (x.seq == y.seq)) (SV.eq (.bool (x.step == y.step))), SV.eq (.bool ((((x.kind == y.kind) && (x.saga == y.saga)) && (x.seq == y.seq)) && (x.step == y.step))), SV.eq (.bool ((((x.kind == y.kind) && (x.saga == y.saga)) && (x.seq == y.seq)) && (x.step == y.step))), svIf ((((x.kind == y.kind) && (x.saga == y.saga)) && (x.seq == y.seq)) && (x.step == y.step)) (SV.eq (.pointer (some ⟨w.heap.size, 4, none⟩))), svIf ((((x.kind == y.kind) && (x.saga == y.saga)) && (x.seq == y.seq)) && (x.step == y.step)) (SV.eq (.int .i64 (x.tr))), svIf ((((x.kind == y.kind) && (x.saga == y.saga)) && (x.seq == y.seq)) && (x.step == y.step)) (SV.eq (.pointer (some ⟨w.heap.size + 1, 4, none⟩))), svIf ((((x.kind == y.kind) && (x.saga == y.saga)) && (x.seq == y.seq)) && (x.step == y.step)) (SV.eq (.int .i64 (y.tr))), svIf ((((x.kind == y.kind) && (x.saga == y.saga)) && (x.seq == y.seq)) && (x.step == y.step)) (SV.eq (.bool (x.tr == y.tr))), SV.eq (.bool (((((x.kind == y.kind) && (x.saga == y.saga)) && (x.seq == y.seq)) && (x.step == y.step)) && (x.tr == y.tr))), SV.eq (.bool (((((x.kind == y.kind) && (x.saga == y.saga)) && (x.seq == y.seq)) && (x.step == y.step)) && (x.tr == y.tr))), svIf (((((x.kind == y.kind) && (x.saga == y.saga)) && (x.seq == y.seq)) && (x.step == y.step)) && (x.tr == y.tr)) (SV.eq (.pointer (some ⟨w.heap.size, 5, none⟩))), svIf (((((x.kind == y.kind) && (x.saga == y.saga)) && (x.seq == y.seq)) && (x.step == y.step)) && (x.tr == y.tr)) (SV.eq (.bool (x.back))), svIf (((((x.kind == y.kind) && (x.saga == y.saga)) && (x.seq == y.seq)) && (x.step == y.step)) && (x.tr == y.tr)) (SV.eq (.pointer (some ⟨w.heap.size + 1, 5, none⟩))), svIf (((((x.kind == y.kind) && (x.saga == y.saga)) && (x.seq == y.seq)) && (x.step == y.step)) && (x.tr == y.tr)) (SV.eq (.bool (y.back))), svIf (((((x.kind == y.kind) && (x.saga == y.saga)) && (x.seq == y.seq)) && (x.step == y.step)) && (x.tr == y.tr)) (SV.eq (.bool (x.back == y.back))), SV.eq (.bool ((((((x.kind == y.kind) && (x.saga == y.saga)) && (x.seq == y.seq)) && (x.step == y.step)) && (x.tr == y.tr)) && (x.back == y.back))), SV.eq (.bool ((((((x.kind == y.kind) && (x.saga == y.saga)) && (x.seq == y.seq)) && (x.step == y.step)) && (x.tr == y.tr)) && (x.back == y.back))), svIf ((((((x.kind == y.kind) && (x.saga == y.saga)) && (x.seq == y.seq)) && (x.step == y.step)) && (x.tr == y.tr)) && (x.back == y.back)) (SV.eq (.pointer (some ⟨w.heap.size, 6, none⟩))), svIf ((((((x.kind == y.kind) && (x.saga == y.saga)) && (x.seq == y.seq)) && (x.step == y.step)) && (x.tr == y.tr)) && (x.back == y.back)) (SV.eq (.bool (x.good))), svIf ((((((x.kind == y.kind) && (x.saga == y.saga)) && (x.seq == y.seq)) && (x.step == y.step)) && (x.tr == y.tr)) && (x.back == y.back)) (SV.eq (.pointer (some ⟨w.heap.size + 1, 6, none⟩))), svIf ((((((x.kind == y.kind) && (x.saga == y.saga)) && (x.seq == y.seq)) && (x.step == y.step)) && (x.tr == y.tr)) && (x.back == y.back)) (SV.eq (.bool (y.good))), svIf ((((((x.kind == y.kind) && (x.saga == y.saga)) && (x.seq == y.seq)) && (x.step == y.step)) && (x.tr == y.tr)) && (x.back == y.back)) (SV.eq (.bool (x.good == y.good))), SV.eq (.bool (((((((x.kind == y.kind) && (x.saga == y.saga)) && (x.seq == y.seq)) && (x.step == y.step)) && (x.tr == y.tr)) && (x.back == y.back)) && (x.good == y.good))), SV.eq (.bool (((((((x.kind == y.kind) && (x.saga == y.saga)) && (x.seq == y.seq)) && (x.step == y.step)) && (x.tr == y.tr)) && (x.back == y.back)) && (x.good == y.good))), svIf (((((((x.kind == y.kind) && (x.saga == y.saga)) && (x.seq == y.seq)) && (x.step == y.step)) && (x.tr == y.tr)) && (x.back == y.back)) && (x.good == y.good)) (SV.eq (.pointer (some ⟨w.heap.size, 7, none⟩))), svIf (((((((x.kind == y.kind) && (x.saga == y.saga)) && (x.seq == y.seq)) && (x.step == y.step)) && (x.tr == y.tr)) && (x.back == y.back)) && (x.good == y.good)) (SV.eq (.int .i64 (x.nd))), svIf (((((((x.kind == y.kind) && (x.saga == y.saga)) && (x.seq == y.seq)) && (x.step == y.step)) && (x.tr == y.tr)) && (x.back == y.back)) && (x.good == y.good)) (SV.eq (.pointer (some ⟨w.heap.size + 1, 7, none⟩))), svIf (((((((x.kind == y.kind) && (x.saga == y.saga)) && (x.seq == y.seq)) && (x.step == y.step)) && (x.tr == y.tr)) && (x.back == y.back)) && (x.good == y.good)) (SV.eq (.int .i64 (y.nd))), svIf (((((((x.kind == y.kind) && (x.saga == y.saga)) && (x.seq == y.seq)) && (x.step == y.step)) && (x.tr == y.tr)) && (x.back == y.back)) && (x.good == y.good)) (SV.eq (.bool (x.nd == y.nd))), SV.eq (.bool ((((((((x.kind == y.kind) && (x.saga == y.saga)) && (x.seq == y.seq)) && (x.step == y.step)) && (x.tr == y.tr)) && (x.back == y.back)) && (x.good == y.good)) && (x.nd == y.nd))), SV.eq (.bool ((((((((x.kind == y.kind) && (x.saga == y.saga)) && (x.seq == y.seq)) && (x.step == y.step)) && (x.tr == y.tr)) && (x.back == y.back)) && (x.good == y.good)) && (x.nd == y.nd))), svIf ((((((((x.kind == y.kind) && (x.saga == y.saga)) && (x.seq == y.seq)) && (x.step == y.step)) && (x.tr == y.tr)) && (x.back == y.back)) && (x.good == y.good)) && (x.nd == y.nd)) (SV.eq (.pointer (some ⟨w.heap.size, 8, none⟩))), svIf ((((((((x.kind == y.kind) && (x.saga == y.saga)) && (x.seq == y.seq)) && (x.step == y.step)) && (x.tr == y.tr)) && (x.back == y.back)) && (x.good == y.good)) && (x.nd == y.nd)) (SV.eq (.int .i64 (x.part))), svIf ((((((((x.kind == y.kind) && (x.saga == y.saga)) && (x.seq == y.seq)) && (x.step == y.step)) && (x.tr == y.tr)) && (x.back == y.back)) && (x.good == y.good)) && (x.nd == y.nd)) (SV.eq (.pointer (some ⟨w.heap.size + 1, 8, none⟩))), svIf ((((((((x.kind == y.kind) && (x.saga == y.saga)) && (x.seq == y.seq)) && (x.step == y.step)) && (x.tr == y.tr)) && (x.back == y.back)) && (x.good == y.good)) && (x.nd == y.nd)) (SV.eq (.int .i64 (y.part))), svIf ((((((((x.kind == y.kind) && (x.saga == y.saga)) && (x.seq == y.seq)) && (x.step == y.step)) && (x.tr == y.tr)) && (x.back == y.back)) && (x.good == y.good)) && (x.nd == y.nd)) (SV.eq (.bool (x.part == y.part))), SV.eq (.bool (((((((((x.kind == y.kind) && (x.saga == y.saga)) && (x.seq == y.seq)) && (x.step == y.step)) && (x.tr == y.tr)) && (x.back == y.back)) && (x.good == y.good)) && (x.nd == y.nd)) && (x.part == y.part))), SV.eq (.bool (((((((((x.kind == y.kind) && (x.saga == y.saga)) && (x.seq == y.seq)) && (x.step == y.step)) && (x.tr == y.tr)) && (x.back == y.back)) && (x.good == y.good)) && (x.nd == y.nd)) && (x.part == y.part))), svIf (((((((((x.kind == y.kind) && (x.saga == y.saga)) && (x.seq == y.seq)) && (x.step == y.step)) && (x.tr == y.tr)) && (x.back == y.back)) && (x.good == y.good)) && (x.nd == y.nd)) && (x.part == y.part)) (SV.eq (.pointer (some ⟨w.heap.size, 9, none⟩))), svIf (((((((((x.kind == y.kind) && (x.saga == y.saga)) && (x.seq == y.seq)) && (x.step == y.step)) && (x.tr == y.tr)) && (x.back == y.back)) && (x.good == y.good)) && (x.nd == y.nd)) && (x.part == y.part)) (SV.eq (.int .i64 (x.epoch))), svIf (((((((((x.kind == y.kind) && (x.saga == y.saga)) && (x.seq == y.seq)) && (x.step == y.step)) && (x.tr == y.tr)) && (x.back == y.back)) && (x.good == y.good)) && (x.nd == y.nd)) && (x.part == y.part)) (SV.eq (.pointer (some ⟨w.heap.size + 1, 9, none⟩))), svIf (((((((((x.kind == y.kind) && (x.saga == y.saga)) && (x.seq == y.seq)) && (x.step == y.step)) && (x.tr == y.tr)) && (x.back == y.back)) && (x.good == y.good)) && (x.nd == y.nd)) && (x.part == y.part)) (SV.eq (.int .i64 (y.epoch))), svIf (((((((((x.kind == y.kind) && (x.saga == y.saga)) && (x.seq == y.seq)) && (x.step == y.step)) && (x.tr == y.tr)) && (x.back == y.back)) && (x.good == y.good)) && (x.nd == y.nd)) && (x.part == y.part)) (SV.eq (.bool (x.epoch == y.epoch))), SV.eq (.bool ((((((((((x.kind == y.kind) && (x.saga == y.saga)) && (x.seq == y.seq)) && (x.step == y.step)) && (x.tr == y.tr)) && (x.back == y.back)) && (x.good == y.good)) && (x.nd == y.nd)) && (x.part == y.part)) && (x.epoch == y.epoch))), SV.eq (.bool ((((((((((x.kind == y.kind) && (x.saga == y.saga)) && (x.seq == y.seq)) && (x.step == y.step)) && (x.tr == y.tr)) && (x.back == y.back)) && (x.good == y.good)) && (x.nd == y.nd)) && (x.part == y.part)) && (x.epoch == y.epoch))), svIf ((((((((((x.kind == y.kind) && (x.saga == y.saga)) && (x.seq == y.seq)) && (x.step == y.step)) && (x.tr == y.tr)) && (x.back == y.back)) && (x.good == y.good)) && (x.nd == y.nd)) && (x.part == y.part)) && (x.epoch == y.epoch)) (SV.eq (.pointer (some ⟨w.heap.size, 10, none⟩))), svIf ((((((((((x.kind == y.kind) && (x.saga == y.saga)) && (x.seq == y.seq)) && (x.step == y.step)) && (x.tr == y.tr)) && (x.back == y.back)) && (x.good == y.good)) && (x.nd == y.nd)) && (x.part == y.part)) && (x.epoch == y.epoch)) (SV.eq (.agg (rowA 32 (bF (x.tag))))), svIf ((((((((((x.kind == y.kind) && (x.saga == y.saga)) && (x.seq == y.seq)) && (x.step == y.step)) && (x.tr == y.tr)) && (x.back == y.back)) && (x.good == y.good)) && (x.nd == y.nd)) && (x.part == y.part)) && (x.epoch == y.epoch)) (SV.eq (.pointer (some ⟨w.heap.size + 1, 10, none⟩))), svIf ((((((((((x.kind == y.kind) && (x.saga == y.saga)) && (x.seq == y.seq)) && (x.step == y.step)) && (x.tr == y.tr)) && (x.back == y.back)) && (x.good == y.good)) && (x.nd == y.nd)) && (x.part == y.part)) && (x.epoch == y.epoch)) (SV.eq (.agg (rowA 32 (bF (y.tag))))), svIf ((((((((((x.kind == y.kind) && (x.saga == y.saga)) && (x.seq == y.seq)) && (x.step == y.step)) && (x.tr == y.tr)) && (x.back == y.back)) && (x.good == y.good)) && (x.nd == y.nd)) && (x.part == y.part)) && (x.epoch == y.epoch)) (SV.eq (.bool (eqH (x.tag) (y.tag)))), SV.eq (.bool (((((((((((x.kind == y.kind) && (x.saga == y.saga)) && (x.seq == y.seq)) && (x.step == y.step)) && (x.tr == y.tr)) && (x.back == y.back)) && (x.good == y.good)) && (x.nd == y.nd)) && (x.part == y.part)) && (x.epoch == y.epoch)) && (eqH (x.tag) (y.tag)))), SV.eq (.bool (((((((((((x.kind == y.kind) && (x.saga == y.saga)) && (x.seq == y.seq)) && (x.step == y.step)) && (x.tr == y.tr)) && (x.back == y.back)) && (x.good == y.good)) && (x.nd == y.nd)) && (x.part == y.part)) && (x.epoch == y.epoch)) && (eqH (x.tag) (y.tag)))), svIf (((((((((((x.kind == y.kind) && (x.saga == y.saga)) && (x.seq == y.seq)) && (x.step == y.step)) && (x.tr == y.tr)) && (x.back == y.back)) && (x.good == y.good)) && (x.nd == y.nd)) && (x.part == y.part)) && (x.epoch == y.epoch)) && (eqH (x.tag) (y.tag))) (SV.eq (.pointer (some ⟨w.heap.size, 42, none⟩))), svIf (((((((((((x.kind == y.kind) && (x.saga == y.saga)) && (x.seq == y.seq)) && (x.step == y.step)) && (x.tr == y.tr)) && (x.back == y.back)) && (x.good == y.good)) && (x.nd == y.nd)) && (x.part == y.part)) && (x.epoch == y.epoch)) && (eqH (x.tag) (y.tag))) (SV.eq (sv)), svIf (((((((((((x.kind == y.kind) && (x.saga == y.saga)) && (x.seq == y.seq)) && (x.step == y.step)) && (x.tr == y.tr)) && (x.back == y.back)) && (x.good == y.good)) && (x.nd == y.nd)) && (x.part == y.part)) && (x.epoch == y.epoch)) && (eqH (x.tag) (y.tag))) (SV.eq (.pointer (some ⟨w.heap.size + 1, 42, none⟩))), svIf (((((((((((x.kind == y.kind) && (x.saga == y.saga)) && (x.seq == y.seq)) && (x.step == y.step)) && (x.tr == y.tr)) && (x.back == y.back)) && (x.good == y.good)) && (x.nd == y.nd)) && (x.part == y.part)) && (x.epoch == y.epoch)) && (eqH (x.tag) (y.tag))) (SV.eq (su)), svIf (((((((((((x.kind == y.kind) && (x.saga == y.saga)) && (x.seq == y.seq)) && (x.step == y.step)) && (x.tr == y.tr)) && (x.back == y.back)) && (x.good == y.good)) && (x.nd == y.nd)) && (x.part == y.part)) && (x.epoch == y.epoch)) && (eqH (x.tag) (y.tag))) (SV.eq (.bool (decide (x.steps = y.steps)))), SV.eq (.bool ((((((((((((x.kind == y.kind) && (x.saga == y.saga)) && (x.seq == y.seq)) && (x.step == y.step)) && (x.tr == y.tr)) && (x.back == y.back)) && (x.good == y.good)) && (x.nd == y.nd)) && (x.part == y.part)) && (x.epoch == y.epoch)) && (eqH (x.tag) (y.tag))) && (decide (x.steps = y.steps)))), SV.eq (.bool ((((((((((((x.kind == y.kind) && (x.saga == y.saga)) && (x.seq == y.seq)) && (x.step == y.step)) && (x.tr == y.tr)) && (x.back == y.back)) && (x.good == y.good)) && (x.nd == y.nd)) && (x.part == y.part)) && (x.epoch == y.epoch)) && (eqH (x.tag) (y.tag))) && (decide (x.steps = y.steps)))), svIf ((((((((((((x.kind == y.kind) && (x.saga == y.saga)) && (x.seq == y.seq)) && (x.step == y.step)) && (x.tr == y.tr)) && (x.back == y.back)) && (x.good == y.good)) && (x.nd == y.nd)) && (x.part == y.part)) && (x.epoch == y.epoch)) && (eqH (x.tag) (y.tag))) && (decide (x.steps = y.steps))) (SV.eq (.pointer (some ⟨w.heap.size, 43, none⟩))), svIf ((((((((((((x.kind == y.kind) && (x.saga == y.saga)) && (x.seq == y.seq)) && (x.step == y.step)) && (x.tr == y.tr)) && (x.back == y.back)) && (x.good == y.good)) && (x.nd == y.nd)) && (x.part == y.part)) && (x.epoch == y.epoch)) && (eqH (x.tag) (y.tag))) && (decide (x.steps = y.steps))) (SV.eq (dv)), svIf ((((((((((((x.kind == y.kind) && (x.saga == y.saga)) && (x.seq == y.seq)) && (x.step == y.step)) && (x.tr == y.tr)) && (x.back == y.back)) && (x.good == y.good)) && (x.nd == y.nd)) && (x.part == y.part)) && (x.epoch == y.epoch)) && (eqH (x.tag) (y.tag))) && (decide (x.steps = y.steps))) (SV.eq (.pointer (some ⟨w.heap.size + 1, 43, none⟩))), svIf ((((((((((((x.kind == y.kind) && (x.saga == y.saga)) && (x.seq == y.seq)) && (x.step == y.step)) && (x.tr == y.tr)) && (x.back == y.back)) && (x.good == y.good)) && (x.nd == y.nd)) && (x.part == y.part)) && (x.epoch == y.epoch)) && (eqH (x.tag) (y.tag))) && (decide (x.steps = y.steps))) (SV.eq (du)), svIf ((((((((((((x.kind == y.kind) && (x.saga == y.saga)) && (x.seq == y.seq)) && (x.step == y.step)) && (x.tr == y.tr)) && (x.back == y.back)) && (x.good == y.good)) && (x.nd == y.nd)) && (x.part == y.part)) && (x.epoch == y.epoch)) && (eqH (x.tag) (y.tag))) && (decide (x.steps = y.steps))) (SV.eq (.bool (decide (x.data = y.data)))), SV.eq (.bool (((((((((((((x.kind == y.kind) && (x.saga == y.saga)) && (x.seq == y.seq)) && (x.step == y.step)) && (x.tr == y.tr)) && (x.back == y.back)) && (x.good == y.good)) && (x.nd == y.nd)) && (x.part == y.part)) && (x.epoch == y.epoch)) && (eqH (x.tag) (y.tag))) && (decide (x.steps = y.steps))) && (decide (x.data = y.data)))), SV.eq (.bool (((((((((((((x.kind == y.kind) && (x.saga == y.saga)) && (x.seq == y.seq)) && (x.step == y.step)) && (x.tr == y.tr)) && (x.back == y.back)) && (x.good == y.good)) && (x.nd == y.nd)) && (x.part == y.part)) && (x.epoch == y.epoch)) && (eqH (x.tag) (y.tag))) && (decide (x.steps = y.steps))) && (decide (x.data = y.data)))), svIf (((((((((((((x.kind == y.kind) && (x.saga == y.saga)) && (x.seq == y.seq)) && (x.step == y.step)) && (x.tr == y.tr)) && (x.back == y.back)) && (x.good == y.good)) && (x.nd == y.nd)) && (x.part == y.part)) && (x.epoch == y.epoch)) && (eqH (x.tag) (y.tag))) && (decide (x.steps = y.steps))) && (decide (x.data = y.data))) (SV.eq (.pointer (some ⟨w.heap.size, 44, none⟩))), svIf (((((((((((((x.kind == y.kind) && (x.saga == y.saga)) && (x.seq == y.seq)) && (x.step == y.step)) && (x.tr == y.tr)) && (x.back == y.back)) && (x.good == y.good)) && (x.nd == y.nd)) && (x.part == y.part)) && (x.epoch == y.epoch)) && (eqH (x.tag) (y.tag))) && (decide (x.steps = y.steps))) && (decide (x.data = y.data))) (SV.eq (.agg (rowA 32 (bF (x.salt))))), svIf (((((((((((((x.kind == y.kind) && (x.saga == y.saga)) && (x.seq == y.seq)) && (x.step == y.step)) && (x.tr == y.tr)) && (x.back == y.back)) && (x.good == y.good)) && (x.nd == y.nd)) && (x.part == y.part)) && (x.epoch == y.epoch)) && (eqH (x.tag) (y.tag))) && (decide (x.steps = y.steps))) && (decide (x.data = y.data))) (SV.eq (.pointer (some ⟨w.heap.size + 1, 44, none⟩))), svIf (((((((((((((x.kind == y.kind) && (x.saga == y.saga)) && (x.seq == y.seq)) && (x.step == y.step)) && (x.tr == y.tr)) && (x.back == y.back)) && (x.good == y.good)) && (x.nd == y.nd)) && (x.part == y.part)) && (x.epoch == y.epoch)) && (eqH (x.tag) (y.tag))) && (decide (x.steps = y.steps))) && (decide (x.data = y.data))) (SV.eq (.agg (rowA 32 (bF (y.salt))))), svIf (((((((((((((x.kind == y.kind) && (x.saga == y.saga)) && (x.seq == y.seq)) && (x.step == y.step)) && (x.tr == y.tr)) && (x.back == y.back)) && (x.good == y.good)) && (x.nd == y.nd)) && (x.part == y.part)) && (x.epoch == y.epoch)) && (eqH (x.tag) (y.tag))) && (decide (x.steps = y.steps))) && (decide (x.data = y.data))) (SV.eq (.bool (eqH (x.salt) (y.salt)))), SV.eq (.bool ((((((((((((((x.kind == y.kind) && (x.saga == y.saga)) && (x.seq == y.seq)) && (x.step == y.step)) && (x.tr == y.tr)) && (x.back == y.back)) && (x.good == y.good)) && (x.nd == y.nd)) && (x.part == y.part)) && (x.epoch == y.epoch)) && (eqH (x.tag) (y.tag))) && (decide (x.steps = y.steps))) && (decide (x.data = y.data))) && (eqH (x.salt) (y.salt)))), SV.eq (.bool ((((((((((((((x.kind == y.kind) && (x.saga == y.saga)) && (x.seq == y.seq)) && (x.step == y.step)) && (x.tr == y.tr)) && (x.back == y.back)) && (x.good == y.good)) && (x.nd == y.nd)) && (x.part == y.part)) && (x.epoch == y.epoch)) && (eqH (x.tag) (y.tag))) && (decide (x.steps = y.steps))) && (decide (x.data = y.data))) && (eqH (x.salt) (y.salt)))), svIf ((((((((((((((x.kind == y.kind) && (x.saga == y.saga)) && (x.seq == y.seq)) && (x.step == y.step)) && (x.tr == y.tr)) && (x.back == y.back)) && (x.good == y.good)) && (x.nd == y.nd)) && (x.part == y.part)) && (x.epoch == y.epoch)) && (eqH (x.tag) (y.tag))) && (decide (x.steps = y.steps))) && (decide (x.data = y.data))) && (eqH (x.salt) (y.salt))) (SV.eq (.pointer (some ⟨w.heap.size, 76, none⟩))), svIf ((((((((((((((x.kind == y.kind) && (x.saga == y.saga)) && (x.seq == y.seq)) && (x.step == y.step)) && (x.tr == y.tr)) && (x.back == y.back)) && (x.good == y.good)) && (x.nd == y.nd)) && (x.part == y.part)) && (x.epoch == y.epoch)) && (eqH (x.tag) (y.tag))) && (decide (x.steps = y.steps))) && (decide (x.data = y.data))) && (eqH (x.salt) (y.salt))) (SV.eq (.bool (x.gone))), svIf ((((((((((((((x.kind == y.kind) && (x.saga == y.saga)) && (x.seq == y.seq)) && (x.step == y.step)) && (x.tr == y.tr)) && (x.back == y.back)) && (x.good == y.good)) && (x.nd == y.nd)) && (x.part == y.part)) && (x.epoch == y.epoch)) && (eqH (x.tag) (y.tag))) && (decide (x.steps = y.steps))) && (decide (x.data = y.data))) && (eqH (x.salt) (y.salt))) (SV.eq (.pointer (some ⟨w.heap.size + 1, 76, none⟩))), svIf ((((((((((((((x.kind == y.kind) && (x.saga == y.saga)) && (x.seq == y.seq)) && (x.step == y.step)) && (x.tr == y.tr)) && (x.back == y.back)) && (x.good == y.good)) && (x.nd == y.nd)) && (x.part == y.part)) && (x.epoch == y.epoch)) && (eqH (x.tag) (y.tag))) && (decide (x.steps = y.steps))) && (decide (x.data = y.data))) && (eqH (x.salt) (y.salt))) (SV.eq (.bool (y.gone))), svIf ((((((((((((((x.kind == y.kind) && (x.saga == y.saga)) && (x.seq == y.seq)) && (x.step == y.step)) && (x.tr == y.tr)) && (x.back == y.back)) && (x.good == y.good)) && (x.nd == y.nd)) && (x.part == y.part)) && (x.epoch == y.epoch)) && (eqH (x.tag) (y.tag))) && (decide (x.steps = y.steps))) && (decide (x.data = y.data))) && (eqH (x.salt) (y.salt))) (SV.eq (.bool (x.gone == y.gone))), SV.eq (.bool (((((((((((((((x.kind == y.kind) && (x.saga == y.saga)) && (x.seq == y.seq)) && (x.step == y.step)) && (x.tr == y.tr)) && (x.back == y.back)) && (x.good == y.good)) && (x.nd == y.nd)) && (x.part == y.part)) && (x.epoch == y.epoch)) && (eqH (x.tag) (y.tag))) && (decide (x.steps = y.steps))) && (decide (x.data = y.data))) && (eqH (x.salt) (y.salt))) && (x.gone == y.gone))), SV.eq (.bool (((((((((((((((x.kind == y.kind) && (x.saga == y.saga)) && (x.seq == y.seq)) && (x.step == y.step)) && (x.tr == y.tr)) && (x.back == y.back)) && (x.good == y.good)) && (x.nd == y.nd)) && (x.part == y.part)) && (x.epoch == y.epoch)) && (eqH (x.tag) (y.tag))) && (decide (x.steps = y.steps))) && (decide (x.data = y.data))) && (eqH (x.salt) (y.salt))) && (x.gone == y.gone))), svIf (((((((((((((((x.kind == y.kind) && (x.saga == y.saga)) && (x.seq == y.seq)) && (x.step == y.step)) && (x.tr == y.tr)) && (x.back == y.back)) && (x.good == y.good)) && (x.nd == y.nd)) && (x.part == y.part)) && (x.epoch == y.epoch)) && (eqH (x.tag) (y.tag))) && (decide (x.steps = y.steps))) && (decide (x.data = y.data))) && (eqH (x.salt) (y.salt))) && (x.gone == y.gone)) (SV.eq (.pointer (some ⟨w.heap.size, 77, none⟩))), svIf (((((((((((((((x.kind == y.kind) && (x.saga == y.saga)) && (x.seq == y.seq)) && (x.step == y.step)) && (x.tr == y.tr)) && (x.back == y.back)) && (x.good == y.good)) && (x.nd == y.nd)) && (x.part == y.part)) && (x.epoch == y.epoch)) && (eqH (x.tag) (y.tag))) && (decide (x.steps = y.steps))) && (decide (x.data = y.data))) && (eqH (x.salt) (y.salt))) && (x.gone == y.gone)) (SV.eq (.agg (rowA 32 (bF (x.com))))), svIf (((((((((((((((x.kind == y.kind) && (x.saga == y.saga)) && (x.seq == y.seq)) && (x.step == y.step)) && (x.tr == y.tr)) && (x.back == y.back)) && (x.good == y.good)) && (x.nd == y.nd)) && (x.part == y.part)) && (x.epoch == y.epoch)) && (eqH (x.tag) (y.tag))) && (decide (x.steps = y.steps))) && (decide (x.data = y.data))) && (eqH (x.salt) (y.salt))) && (x.gone == y.gone)) (SV.eq (.pointer (some ⟨w.heap.size + 1, 77, none⟩))), svIf (((((((((((((((x.kind == y.kind) && (x.saga == y.saga)) && (x.seq == y.seq)) && (x.step == y.step)) && (x.tr == y.tr)) && (x.back == y.back)) && (x.good == y.good)) && (x.nd == y.nd)) && (x.part == y.part)) && (x.epoch == y.epoch)) && (eqH (x.tag) (y.tag))) && (decide (x.steps = y.steps))) && (decide (x.data = y.data))) && (eqH (x.salt) (y.salt))) && (x.gone == y.gone)) (SV.eq (.agg (rowA 32 (bF (y.com))))), svIf (((((((((((((((x.kind == y.kind) && (x.saga == y.saga)) && (x.seq == y.seq)) && (x.step == y.step)) && (x.tr == y.tr)) && (x.back == y.back)) && (x.good == y.good)) && (x.nd == y.nd)) && (x.part == y.part)) && (x.epoch == y.epoch)) && (eqH (x.tag) (y.tag))) && (decide (x.steps = y.steps))) && (decide (x.data = y.data))) && (eqH (x.salt) (y.salt))) && (x.gone == y.gone)) (SV.eq (.bool (eqH (x.com) (y.com)))), SV.eq (.bool ((((((((((((((((x.kind == y.kind) && (x.saga == y.saga)) && (x.seq == y.seq)) && (x.step == y.step)) && (x.tr == y.tr)) && (x.back == y.back)) && (x.good == y.good)) && (x.nd == y.nd)) && (x.part == y.part)) && (x.epoch == y.epoch)) && (eqH (x.tag) (y.tag))) && (decide (x.steps = y.steps))) && (decide (x.data = y.data))) && (eqH (x.salt) (y.salt))) && (x.gone == y.gone)) && (eqH (x.com) (y.com))))] [([(2, none)], none), ([(5, some 0)], none), ([(3, none)], none), ([(7, some 2)], none), ([(6, some 1), (8, some 3)], none), ([(9, some 4)], none), ([(2, none), (10, some 5)], some (10, true)), ([(11, some 6), (10, some 5)], some (10, true)), ([(3, none), (10, some 5)], some (10, true)), ([(13, some 8), (10, some 5)], some (10, true)), ([(12, some 7), (14, some 9), (10, some 5)], some (10, true)), ([(10, some 5), (15, some 10)], none), ([(16, some 11)], none), ([(2, none), (17, some 12)], some (17, true)), ([(18, some 13), (17, some 12)], some (17, true)), ([(3, none), (17, some 12)], some (17, true)), ([(20, some 15), (17, some 12)], some (17, true)), ([(19, some 14), (21, some 16), (17, some 12)], some (17, true)), ([(17, some 12), (22, some 17)], none), ([(23, some 18)], none), ([(2, none), (24, some 19)], some (24, true)), ([(25, some 20), (24, some 19)], some (24, true)), ([(3, none), (24, some 19)], some (24, true)), ([(27, some 22), (24, some 19)], some (24, true)), ([(26, some 21), (28, some 23), (24, some 19)], some (24, true)), ([(24, some 19), (29, some 24)], none), ([(30, some 25)], none), ([(2, none), (31, some 26)], some (31, true)), ([(32, some 27), (31, some 26)], some (31, true)), ([(3, none), (31, some 26)], some (31, true)), ([(34, some 29), (31, some 26)], some (31, true)), ([(33, some 28), (35, some 30), (31, some 26)], some (31, true)), ([(31, some 26), (36, some 31)], none), ([(37, some 32)], none), ([(2, none), (38, some 33)], some (38, true)), ([(39, some 34), (38, some 33)], some (38, true)), ([(3, none), (38, some 33)], some (38, true)), ([(41, some 36), (38, some 33)], some (38, true)), ([(40, some 35), (42, some 37), (38, some 33)], some (38, true)), ([(38, some 33), (43, some 38)], none), ([(44, some 39)], none), ([(2, none), (45, some 40)], some (45, true)), ([(46, some 41), (45, some 40)], some (45, true)), ([(3, none), (45, some 40)], some (45, true)), ([(48, some 43), (45, some 40)], some (45, true)), ([(47, some 42), (49, some 44), (45, some 40)], some (45, true)), ([(45, some 40), (50, some 45)], none), ([(51, some 46)], none), ([(2, none), (52, some 47)], some (52, true)), ([(53, some 48), (52, some 47)], some (52, true)), ([(3, none), (52, some 47)], some (52, true)), ([(55, some 50), (52, some 47)], some (52, true)), ([(54, some 49), (56, some 51), (52, some 47)], some (52, true)), ([(52, some 47), (57, some 52)], none), ([(58, some 53)], none), ([(2, none), (59, some 54)], some (59, true)), ([(60, some 55), (59, some 54)], some (59, true)), ([(3, none), (59, some 54)], some (59, true)), ([(62, some 57), (59, some 54)], some (59, true)), ([(61, some 56), (63, some 58), (59, some 54)], some (59, true)), ([(59, some 54), (64, some 59)], none), ([(65, some 60)], none), ([(2, none), (66, some 61)], some (66, true)), ([(67, some 62), (66, some 61)], some (66, true)), ([(3, none), (66, some 61)], some (66, true)), ([(69, some 64), (66, some 61)], some (66, true)), ([(68, some 63), (70, some 65), (66, some 61)], some (66, true)), ([(66, some 61), (71, some 66)], none), ([(72, some 67)], none), ([(2, none), (73, some 68)], some (73, true)), ([(74, some 69), (73, some 68)], some (73, true)), ([(3, none), (73, some 68)], some (73, true)), ([(76, some 71), (73, some 68)], some (73, true)), ([(75, some 70), (77, some 72), (73, some 68)], some (73, true)), ([(73, some 68), (78, some 73)], none), ([(79, some 74)], none), ([(2, none), (80, some 75)], some (80, true)), ([(81, some 76), (80, some 75)], some (80, true)), ([(3, none), (80, some 75)], some (80, true)), ([(83, some 78), (80, some 75)], some (80, true)), ([(82, some 77), (84, some 79), (80, some 75)], some (80, true)), ([(80, some 75), (85, some 80)], none), ([(86, some 81)], none), ([(2, none), (87, some 82)], some (87, true)), ([(88, some 83), (87, some 82)], some (87, true)), ([(3, none), (87, some 82)], some (87, true)), ([(90, some 85), (87, some 82)], some (87, true)), ([(89, some 84), (91, some 86), (87, some 82)], some (87, true)), ([(87, some 82), (92, some 87)], none), ([(93, some 88)], none), ([(2, none), (94, some 89)], some (94, true)), ([(95, some 90), (94, some 89)], some (94, true)), ([(3, none), (94, some 89)], some (94, true)), ([(97, some 92), (94, some 89)], some (94, true)), ([(96, some 91), (98, some 93), (94, some 89)], some (94, true)), ([(94, some 89), (99, some 94)], none), ([(100, some 95)], none), ([(2, none), (101, some 96)], some (101, true)), ([(102, some 97), (101, some 96)], some (101, true)), ([(3, none), (101, some 96)], some (101, true)), ([(104, some 99), (101, some 96)], some (101, true)), ([(103, some 98), (105, some 100), (101, some 96)], some (101, true)), ([(101, some 96), (106, some 101)], none), ([(107, some 102)], none), ([(2, none), (108, some 103)], some (108, true)), ([(109, some 104), (108, some 103)], some (108, true)), ([(3, none), (108, some 103)], some (108, true)), ([(111, some 106), (108, some 103)], some (108, true)), ([(110, some 105), (112, some 107), (108, some 103)], some (108, true)), ([(108, some 103), (113, some 108)], none)] 115 110 rfl rfl (by kernel_rfl) NewT.trans (NewT.refl _) trivial (Nat.le_of_ble_eq_true rfl) ⟨?_, ?_, ?_, ?_, ?_, ?_, ?_, ?_, ?_, ?_, ?_, ?_, ?_, ?_, ?_, ?_, ?_, ?_, ?_, ?_, ?_, ?_, ?_, ?_, ?_, ?_, ?_, ?_, ?_, ?_, ?_, ?_, ?_, ?_, ?_, ?_, ?_, ?_, ?_, ?_, ?_, ?_, ?_, ?_, ?_, ?_, ?_, ?_, ?_, ?_, ?_, ?_, ?_, ?_, ?_, ?_, ?_, ?_, ?_, ?_, ?_, ?_, ?_, ?_, ?_, ?_, ?_, ?_, ?_, ?_, ?_, ?_, ?_, ?_, ?_, ?_, ?_, ?_, ?_, ?_, ?_, ?_, ?_, ?_, ?_, ?_, ?_, ?_, ?_, ?_, ?_, ?_, ?_, ?_, ?_, ?_, ?_, ?_, ?_, ?_, ?_, ?_, ?_, ?_, ?_, ?_, ?_, ?_, ?_, ?_, trivial⟩ ?_
  · -- 0: Op.fieldAddr 27 t2 0
    intro a wx hT hF _ K hK
    replace hK := fun v w' (h : NewT wx w') c => hK v w' h trivial c
    obtain ⟨f2, _⟩ := hF
    have f2 : a.tmps.getD 2 undef = .pointer (some ⟨w.heap.size, 0, none⟩) := f2
    refine rely_wp rfl ?_
    exact opr_fldR (by decide) rfl f2 (hK _ _ (NewT.refl _) rfl)
  · -- 1: Op.load 3 t5
    intro a wx hT hF _ K hK
    replace hK := fun v w' (h : NewT wx w') c => hK v w' h trivial c
    obtain ⟨f5, _⟩ := hF
    have f5 : a.tmps.getD 5 undef = .pointer (some ⟨w.heap.size, 0, none⟩) := f5
    refine rely_wp rfl ?_
    exact opr_ldI (hT.row R1.out) (by decide) rfl rfl f5 (hK _ _ (NewT.refl _) rfl)
  · -- 2: Op.fieldAddr 27 t3 0
    intro a wx hT hF _ K hK
    replace hK := fun v w' (h : NewT wx w') c => hK v w' h trivial c
    obtain ⟨f3, _⟩ := hF
    have f3 : a.tmps.getD 3 undef = .pointer (some ⟨w.heap.size + 1, 0, none⟩) := f3
    refine rely_wp rfl ?_
    exact opr_fldR (by decide) rfl f3 (hK _ _ (NewT.refl _) rfl)
  · -- 3: Op.load 3 t7
    intro a wx hT hF _ K hK
    replace hK := fun v w' (h : NewT wx w') c => hK v w' h trivial c
    obtain ⟨f7, _⟩ := hF
    have f7 : a.tmps.getD 7 undef = .pointer (some ⟨w.heap.size + 1, 0, none⟩) := f7
    refine rely_wp rfl ?_
    exact opr_ldI (hT.row R2.out) (by decide) rfl rfl f7 (hK _ _ (NewT.refl _) rfl)
  · -- 4: Op.binOp BinOp.eql 3 t6 t8 3
    intro a wx hT hF _ K hK
    replace hK := fun v w' (h : NewT wx w') c => hK v w' h trivial c
    obtain ⟨f6, f8, _⟩ := hF
    have f6 : a.tmps.getD 6 undef = .int .i64 (x.kind) := f6
    have f8 : a.tmps.getD 8 undef = .int .i64 (y.kind) := f8
    refine rely_wp rfl ?_
    exact opr_cmp (b := x.kind == y.kind) (.inl ⟨rfl, rfl⟩) Tryd.underlying3 rfl f6 f8 (hK _ _ (NewT.refl _) rfl)
  · -- 5: Op.move t9
    intro a wx hT hF _ K hK
    replace hK := fun v w' (h : NewT wx w') c => hK v w' h trivial c
    obtain ⟨f9, _⟩ := hF
    have f9 : a.tmps.getD 9 undef = .bool (x.kind == y.kind) := f9
    refine rely_wp rfl ?_
    exact opr_move (.inl rfl) (hK _ _ (NewT.refl _) f9)
  · -- 6: Op.fieldAddr 27 t2 1
    intro a wx hT hF _ K hK
    replace hK := fun v w' (h : NewT wx w') c => hK v w' h trivial c
    obtain ⟨f2, f10, _⟩ := hF
    have f2 : a.tmps.getD 2 undef = .pointer (some ⟨w.heap.size, 0, none⟩) := f2
    have f10 : a.tmps.getD 10 undef = .bool (x.kind == y.kind) := f10
    refine rely_on (rely_gt f10) (fun hE => ?_) (fun hE => hK _ _ (NewT.refl _) (svIf_off hE))
    replace hK := fun v w' (h : NewT wx w') (c : (SV.eq (.pointer (some ⟨w.heap.size, 1, none⟩))).pred v w') => hK v w' h (fun _ => c)
    exact opr_fldR (by decide) rfl f2 (hK _ _ (NewT.refl _) rfl)
  · -- 7: Op.load 3 t11
    intro a wx hT hF _ K hK
    replace hK := fun v w' (h : NewT wx w') c => hK v w' h trivial c
    obtain ⟨f11, f10, _⟩ := hF
    have f11 : (x.kind == y.kind) = true → a.tmps.getD 11 undef = .pointer (some ⟨w.heap.size, 1, none⟩) := f11
    have f10 : a.tmps.getD 10 undef = .bool (x.kind == y.kind) := f10
    refine rely_on (rely_gt f10) (fun hE => ?_) (fun hE => hK _ _ (NewT.refl _) (svIf_off hE))
    replace hK := fun v w' (h : NewT wx w') (c : (SV.eq (.int .i64 (x.saga))).pred v w') => hK v w' h (fun _ => c)
    exact opr_ldI (hT.row R1.out) (by decide) rfl rfl (f11 hE) (hK _ _ (NewT.refl _) rfl)
  · -- 8: Op.fieldAddr 27 t3 1
    intro a wx hT hF _ K hK
    replace hK := fun v w' (h : NewT wx w') c => hK v w' h trivial c
    obtain ⟨f3, f10, _⟩ := hF
    have f3 : a.tmps.getD 3 undef = .pointer (some ⟨w.heap.size + 1, 0, none⟩) := f3
    have f10 : a.tmps.getD 10 undef = .bool (x.kind == y.kind) := f10
    refine rely_on (rely_gt f10) (fun hE => ?_) (fun hE => hK _ _ (NewT.refl _) (svIf_off hE))
    replace hK := fun v w' (h : NewT wx w') (c : (SV.eq (.pointer (some ⟨w.heap.size + 1, 1, none⟩))).pred v w') => hK v w' h (fun _ => c)
    exact opr_fldR (by decide) rfl f3 (hK _ _ (NewT.refl _) rfl)
  · -- 9: Op.load 3 t13
    intro a wx hT hF _ K hK
    replace hK := fun v w' (h : NewT wx w') c => hK v w' h trivial c
    obtain ⟨f13, f10, _⟩ := hF
    have f13 : (x.kind == y.kind) = true → a.tmps.getD 13 undef = .pointer (some ⟨w.heap.size + 1, 1, none⟩) := f13
    have f10 : a.tmps.getD 10 undef = .bool (x.kind == y.kind) := f10
    refine rely_on (rely_gt f10) (fun hE => ?_) (fun hE => hK _ _ (NewT.refl _) (svIf_off hE))
    replace hK := fun v w' (h : NewT wx w') (c : (SV.eq (.int .i64 (y.saga))).pred v w') => hK v w' h (fun _ => c)
    exact opr_ldI (hT.row R2.out) (by decide) rfl rfl (f13 hE) (hK _ _ (NewT.refl _) rfl)
  · -- 10: Op.binOp BinOp.eql 3 t12 t14 3
    intro a wx hT hF _ K hK
    replace hK := fun v w' (h : NewT wx w') c => hK v w' h trivial c
    obtain ⟨f12, f14, f10, _⟩ := hF
    have f12 : (x.kind == y.kind) = true → a.tmps.getD 12 undef = .int .i64 (x.saga) := f12
    have f14 : (x.kind == y.kind) = true → a.tmps.getD 14 undef = .int .i64 (y.saga) := f14
    have f10 : a.tmps.getD 10 undef = .bool (x.kind == y.kind) := f10
    refine rely_on (rely_gt f10) (fun hE => ?_) (fun hE => hK _ _ (NewT.refl _) (svIf_off hE))
    replace hK := fun v w' (h : NewT wx w') (c : (SV.eq (.bool (x.saga == y.saga))).pred v w') => hK v w' h (fun _ => c)
    exact opr_cmp (b := x.saga == y.saga) (.inl ⟨rfl, rfl⟩) Tryd.underlying3 rfl (f12 hE) (f14 hE) (hK _ _ (NewT.refl _) rfl)
  · -- 11: Op.pick t10 t15 (const (Value.bool false))
    intro a wx hT hF _ K hK
    replace hK := fun v w' (h : NewT wx w') c => hK v w' h trivial c
    obtain ⟨f10, f15, _⟩ := hF
    have f10 : a.tmps.getD 10 undef = .bool (x.kind == y.kind) := f10
    have f15 : (x.kind == y.kind) = true → a.tmps.getD 15 undef = .bool (x.saga == y.saga) := f15
    refine rely_wp rfl ?_
    exact opr_pick_b rfl f10 (fun hb => hK _ _ (NewT.refl _) (pk_and1 (f15 hb) hb)) (fun hb => hK _ _ (NewT.refl _) (pk_and0 hb))
  · -- 12: Op.move t16
    intro a wx hT hF _ K hK
    replace hK := fun v w' (h : NewT wx w') c => hK v w' h trivial c
    obtain ⟨f16, _⟩ := hF
    have f16 : a.tmps.getD 16 undef = .bool ((x.kind == y.kind) && (x.saga == y.saga)) := f16
    refine rely_wp rfl ?_
    exact opr_move (.inl rfl) (hK _ _ (NewT.refl _) f16)
  · -- 13: Op.fieldAddr 27 t2 2
    intro a wx hT hF _ K hK
    replace hK := fun v w' (h : NewT wx w') c => hK v w' h trivial c
    obtain ⟨f2, f17, _⟩ := hF
    have f2 : a.tmps.getD 2 undef = .pointer (some ⟨w.heap.size, 0, none⟩) := f2
    have f17 : a.tmps.getD 17 undef = .bool ((x.kind == y.kind) && (x.saga == y.saga)) := f17
    refine rely_on (rely_gt f17) (fun hE => ?_) (fun hE => hK _ _ (NewT.refl _) (svIf_off hE))
    replace hK := fun v w' (h : NewT wx w') (c : (SV.eq (.pointer (some ⟨w.heap.size, 2, none⟩))).pred v w') => hK v w' h (fun _ => c)
    exact opr_fldR (by decide) rfl f2 (hK _ _ (NewT.refl _) rfl)
  · -- 14: Op.load 3 t18
    intro a wx hT hF _ K hK
    replace hK := fun v w' (h : NewT wx w') c => hK v w' h trivial c
    obtain ⟨f18, f17, _⟩ := hF
    have f18 : ((x.kind == y.kind) && (x.saga == y.saga)) = true → a.tmps.getD 18 undef = .pointer (some ⟨w.heap.size, 2, none⟩) := f18
    have f17 : a.tmps.getD 17 undef = .bool ((x.kind == y.kind) && (x.saga == y.saga)) := f17
    refine rely_on (rely_gt f17) (fun hE => ?_) (fun hE => hK _ _ (NewT.refl _) (svIf_off hE))
    replace hK := fun v w' (h : NewT wx w') (c : (SV.eq (.int .i64 (x.seq))).pred v w') => hK v w' h (fun _ => c)
    exact opr_ldI (hT.row R1.out) (by decide) rfl rfl (f18 hE) (hK _ _ (NewT.refl _) rfl)
  · -- 15: Op.fieldAddr 27 t3 2
    intro a wx hT hF _ K hK
    replace hK := fun v w' (h : NewT wx w') c => hK v w' h trivial c
    obtain ⟨f3, f17, _⟩ := hF
    have f3 : a.tmps.getD 3 undef = .pointer (some ⟨w.heap.size + 1, 0, none⟩) := f3
    have f17 : a.tmps.getD 17 undef = .bool ((x.kind == y.kind) && (x.saga == y.saga)) := f17
    refine rely_on (rely_gt f17) (fun hE => ?_) (fun hE => hK _ _ (NewT.refl _) (svIf_off hE))
    replace hK := fun v w' (h : NewT wx w') (c : (SV.eq (.pointer (some ⟨w.heap.size + 1, 2, none⟩))).pred v w') => hK v w' h (fun _ => c)
    exact opr_fldR (by decide) rfl f3 (hK _ _ (NewT.refl _) rfl)
  · -- 16: Op.load 3 t20
    intro a wx hT hF _ K hK
    replace hK := fun v w' (h : NewT wx w') c => hK v w' h trivial c
    obtain ⟨f20, f17, _⟩ := hF
    have f20 : ((x.kind == y.kind) && (x.saga == y.saga)) = true → a.tmps.getD 20 undef = .pointer (some ⟨w.heap.size + 1, 2, none⟩) := f20
    have f17 : a.tmps.getD 17 undef = .bool ((x.kind == y.kind) && (x.saga == y.saga)) := f17
    refine rely_on (rely_gt f17) (fun hE => ?_) (fun hE => hK _ _ (NewT.refl _) (svIf_off hE))
    replace hK := fun v w' (h : NewT wx w') (c : (SV.eq (.int .i64 (y.seq))).pred v w') => hK v w' h (fun _ => c)
    exact opr_ldI (hT.row R2.out) (by decide) rfl rfl (f20 hE) (hK _ _ (NewT.refl _) rfl)
  · -- 17: Op.binOp BinOp.eql 3 t19 t21 3
    intro a wx hT hF _ K hK
    replace hK := fun v w' (h : NewT wx w') c => hK v w' h trivial c
    obtain ⟨f19, f21, f17, _⟩ := hF
    have f19 : ((x.kind == y.kind) && (x.saga == y.saga)) = true → a.tmps.getD 19 undef = .int .i64 (x.seq) := f19
    have f21 : ((x.kind == y.kind) && (x.saga == y.saga)) = true → a.tmps.getD 21 undef = .int .i64 (y.seq) := f21
    have f17 : a.tmps.getD 17 undef = .bool ((x.kind == y.kind) && (x.saga == y.saga)) := f17
    refine rely_on (rely_gt f17) (fun hE => ?_) (fun hE => hK _ _ (NewT.refl _) (svIf_off hE))
    replace hK := fun v w' (h : NewT wx w') (c : (SV.eq (.bool (x.seq == y.seq))).pred v w') => hK v w' h (fun _ => c)
    exact opr_cmp (b := x.seq == y.seq) (.inl ⟨rfl, rfl⟩) Tryd.underlying3 rfl (f19 hE) (f21 hE) (hK _ _ (NewT.refl _) rfl)
  · -- 18: Op.pick t17 t22 (const (Value.bool false))
    intro a wx hT hF _ K hK
    replace hK := fun v w' (h : NewT wx w') c => hK v w' h trivial c
    obtain ⟨f17, f22, _⟩ := hF
    have f17 : a.tmps.getD 17 undef = .bool ((x.kind == y.kind) && (x.saga == y.saga)) := f17
    have f22 : ((x.kind == y.kind) && (x.saga == y.saga)) = true → a.tmps.getD 22 undef = .bool (x.seq == y.seq) := f22
    refine rely_wp rfl ?_
    exact opr_pick_b rfl f17 (fun hb => hK _ _ (NewT.refl _) (pk_and1 (f22 hb) hb)) (fun hb => hK _ _ (NewT.refl _) (pk_and0 hb))
  · -- 19: Op.move t23
    intro a wx hT hF _ K hK
    replace hK := fun v w' (h : NewT wx w') c => hK v w' h trivial c
    obtain ⟨f23, _⟩ := hF
    have f23 : a.tmps.getD 23 undef = .bool (((x.kind == y.kind) && (x.saga == y.saga)) && (x.seq == y.seq)) := f23
    refine rely_wp rfl ?_
    exact opr_move (.inl rfl) (hK _ _ (NewT.refl _) f23)
  · -- 20: Op.fieldAddr 27 t2 3
    intro a wx hT hF _ K hK
    replace hK := fun v w' (h : NewT wx w') c => hK v w' h trivial c
    obtain ⟨f2, f24, _⟩ := hF
    have f2 : a.tmps.getD 2 undef = .pointer (some ⟨w.heap.size, 0, none⟩) := f2
    have f24 : a.tmps.getD 24 undef = .bool (((x.kind == y.kind) && (x.saga == y.saga)) && (x.seq == y.seq)) := f24
    refine rely_on (rely_gt f24) (fun hE => ?_) (fun hE => hK _ _ (NewT.refl _) (svIf_off hE))
    replace hK := fun v w' (h : NewT wx w') (c : (SV.eq (.pointer (some ⟨w.heap.size, 3, none⟩))).pred v w') => hK v w' h (fun _ => c)
    exact opr_fldR (by decide) rfl f2 (hK _ _ (NewT.refl _) rfl)
  · -- 21: Op.load 3 t25
    intro a wx hT hF _ K hK
    replace hK := fun v w' (h : NewT wx w') c => hK v w' h trivial c
    obtain ⟨f25, f24, _⟩ := hF
    have f25 : (((x.kind == y.kind) && (x.saga == y.saga)) && (x.seq == y.seq)) = true → a.tmps.getD 25 undef = .pointer (some ⟨w.heap.size, 3, none⟩) := f25
    have f24 : a.tmps.getD 24 undef = .bool (((x.kind == y.kind) && (x.saga == y.saga)) && (x.seq == y.seq)) := f24
    refine rely_on (rely_gt f24) (fun hE => ?_) (fun hE => hK _ _ (NewT.refl _) (svIf_off hE))
    replace hK := fun v w' (h : NewT wx w') (c : (SV.eq (.int .i64 (x.step))).pred v w') => hK v w' h (fun _ => c)
    exact opr_ldI (hT.row R1.out) (by decide) rfl rfl (f25 hE) (hK _ _ (NewT.refl _) rfl)
  · -- 22: Op.fieldAddr 27 t3 3
    intro a wx hT hF _ K hK
    replace hK := fun v w' (h : NewT wx w') c => hK v w' h trivial c
    obtain ⟨f3, f24, _⟩ := hF
    have f3 : a.tmps.getD 3 undef = .pointer (some ⟨w.heap.size + 1, 0, none⟩) := f3
    have f24 : a.tmps.getD 24 undef = .bool (((x.kind == y.kind) && (x.saga == y.saga)) && (x.seq == y.seq)) := f24
    refine rely_on (rely_gt f24) (fun hE => ?_) (fun hE => hK _ _ (NewT.refl _) (svIf_off hE))
    replace hK := fun v w' (h : NewT wx w') (c : (SV.eq (.pointer (some ⟨w.heap.size + 1, 3, none⟩))).pred v w') => hK v w' h (fun _ => c)
    exact opr_fldR (by decide) rfl f3 (hK _ _ (NewT.refl _) rfl)
  · -- 23: Op.load 3 t27
    intro a wx hT hF _ K hK
    replace hK := fun v w' (h : NewT wx w') c => hK v w' h trivial c
    obtain ⟨f27, f24, _⟩ := hF
    have f27 : (((x.kind == y.kind) && (x.saga == y.saga)) && (x.seq == y.seq)) = true → a.tmps.getD 27 undef = .pointer (some ⟨w.heap.size + 1, 3, none⟩) := f27
    have f24 : a.tmps.getD 24 undef = .bool (((x.kind == y.kind) && (x.saga == y.saga)) && (x.seq == y.seq)) := f24
    refine rely_on (rely_gt f24) (fun hE => ?_) (fun hE => hK _ _ (NewT.refl _) (svIf_off hE))
    replace hK := fun v w' (h : NewT wx w') (c : (SV.eq (.int .i64 (y.step))).pred v w') => hK v w' h (fun _ => c)
    exact opr_ldI (hT.row R2.out) (by decide) rfl rfl (f27 hE) (hK _ _ (NewT.refl _) rfl)
  · -- 24: Op.binOp BinOp.eql 3 t26 t28 3
    intro a wx hT hF _ K hK
    replace hK := fun v w' (h : NewT wx w') c => hK v w' h trivial c
    obtain ⟨f26, f28, f24, _⟩ := hF
    have f26 : (((x.kind == y.kind) && (x.saga == y.saga)) && (x.seq == y.seq)) = true → a.tmps.getD 26 undef = .int .i64 (x.step) := f26
    have f28 : (((x.kind == y.kind) && (x.saga == y.saga)) && (x.seq == y.seq)) = true → a.tmps.getD 28 undef = .int .i64 (y.step) := f28
    have f24 : a.tmps.getD 24 undef = .bool (((x.kind == y.kind) && (x.saga == y.saga)) && (x.seq == y.seq)) := f24
    refine rely_on (rely_gt f24) (fun hE => ?_) (fun hE => hK _ _ (NewT.refl _) (svIf_off hE))
    replace hK := fun v w' (h : NewT wx w') (c : (SV.eq (.bool (x.step == y.step))).pred v w') => hK v w' h (fun _ => c)
    exact opr_cmp (b := x.step == y.step) (.inl ⟨rfl, rfl⟩) Tryd.underlying3 rfl (f26 hE) (f28 hE) (hK _ _ (NewT.refl _) rfl)
  · -- 25: Op.pick t24 t29 (const (Value.bool false))
    intro a wx hT hF _ K hK
    replace hK := fun v w' (h : NewT wx w') c => hK v w' h trivial c
    obtain ⟨f24, f29, _⟩ := hF
    have f24 : a.tmps.getD 24 undef = .bool (((x.kind == y.kind) && (x.saga == y.saga)) && (x.seq == y.seq)) := f24
    have f29 : (((x.kind == y.kind) && (x.saga == y.saga)) && (x.seq == y.seq)) = true → a.tmps.getD 29 undef = .bool (x.step == y.step) := f29
    refine rely_wp rfl ?_
    exact opr_pick_b rfl f24 (fun hb => hK _ _ (NewT.refl _) (pk_and1 (f29 hb) hb)) (fun hb => hK _ _ (NewT.refl _) (pk_and0 hb))
  · -- 26: Op.move t30
    intro a wx hT hF _ K hK
    replace hK := fun v w' (h : NewT wx w') c => hK v w' h trivial c
    obtain ⟨f30, _⟩ := hF
    have f30 : a.tmps.getD 30 undef = .bool ((((x.kind == y.kind) && (x.saga == y.saga)) && (x.seq == y.seq)) && (x.step == y.step)) := f30
    refine rely_wp rfl ?_
    exact opr_move (.inl rfl) (hK _ _ (NewT.refl _) f30)
  · -- 27: Op.fieldAddr 27 t2 4
    intro a wx hT hF _ K hK
    replace hK := fun v w' (h : NewT wx w') c => hK v w' h trivial c
    obtain ⟨f2, f31, _⟩ := hF
    have f2 : a.tmps.getD 2 undef = .pointer (some ⟨w.heap.size, 0, none⟩) := f2
    have f31 : a.tmps.getD 31 undef = .bool ((((x.kind == y.kind) && (x.saga == y.saga)) && (x.seq == y.seq)) && (x.step == y.step)) := f31
    refine rely_on (rely_gt f31) (fun hE => ?_) (fun hE => hK _ _ (NewT.refl _) (svIf_off hE))
    replace hK := fun v w' (h : NewT wx w') (c : (SV.eq (.pointer (some ⟨w.heap.size, 4, none⟩))).pred v w') => hK v w' h (fun _ => c)
    exact opr_fldR (by decide) rfl f2 (hK _ _ (NewT.refl _) rfl)
  · -- 28: Op.load 3 t32
    intro a wx hT hF _ K hK
    replace hK := fun v w' (h : NewT wx w') c => hK v w' h trivial c
    obtain ⟨f32, f31, _⟩ := hF
    have f32 : ((((x.kind == y.kind) && (x.saga == y.saga)) && (x.seq == y.seq)) && (x.step == y.step)) = true → a.tmps.getD 32 undef = .pointer (some ⟨w.heap.size, 4, none⟩) := f32
    have f31 : a.tmps.getD 31 undef = .bool ((((x.kind == y.kind) && (x.saga == y.saga)) && (x.seq == y.seq)) && (x.step == y.step)) := f31
    refine rely_on (rely_gt f31) (fun hE => ?_) (fun hE => hK _ _ (NewT.refl _) (svIf_off hE))
    replace hK := fun v w' (h : NewT wx w') (c : (SV.eq (.int .i64 (x.tr))).pred v w') => hK v w' h (fun _ => c)
    exact opr_ldI (hT.row R1.out) (by decide) rfl rfl (f32 hE) (hK _ _ (NewT.refl _) rfl)
  · -- 29: Op.fieldAddr 27 t3 4
    intro a wx hT hF _ K hK
    replace hK := fun v w' (h : NewT wx w') c => hK v w' h trivial c
    obtain ⟨f3, f31, _⟩ := hF
    have f3 : a.tmps.getD 3 undef = .pointer (some ⟨w.heap.size + 1, 0, none⟩) := f3
    have f31 : a.tmps.getD 31 undef = .bool ((((x.kind == y.kind) && (x.saga == y.saga)) && (x.seq == y.seq)) && (x.step == y.step)) := f31
    refine rely_on (rely_gt f31) (fun hE => ?_) (fun hE => hK _ _ (NewT.refl _) (svIf_off hE))
    replace hK := fun v w' (h : NewT wx w') (c : (SV.eq (.pointer (some ⟨w.heap.size + 1, 4, none⟩))).pred v w') => hK v w' h (fun _ => c)
    exact opr_fldR (by decide) rfl f3 (hK _ _ (NewT.refl _) rfl)
  · -- 30: Op.load 3 t34
    intro a wx hT hF _ K hK
    replace hK := fun v w' (h : NewT wx w') c => hK v w' h trivial c
    obtain ⟨f34, f31, _⟩ := hF
    have f34 : ((((x.kind == y.kind) && (x.saga == y.saga)) && (x.seq == y.seq)) && (x.step == y.step)) = true → a.tmps.getD 34 undef = .pointer (some ⟨w.heap.size + 1, 4, none⟩) := f34
    have f31 : a.tmps.getD 31 undef = .bool ((((x.kind == y.kind) && (x.saga == y.saga)) && (x.seq == y.seq)) && (x.step == y.step)) := f31
    refine rely_on (rely_gt f31) (fun hE => ?_) (fun hE => hK _ _ (NewT.refl _) (svIf_off hE))
    replace hK := fun v w' (h : NewT wx w') (c : (SV.eq (.int .i64 (y.tr))).pred v w') => hK v w' h (fun _ => c)
    exact opr_ldI (hT.row R2.out) (by decide) rfl rfl (f34 hE) (hK _ _ (NewT.refl _) rfl)
  · -- 31: Op.binOp BinOp.eql 3 t33 t35 3
    intro a wx hT hF _ K hK
    replace hK := fun v w' (h : NewT wx w') c => hK v w' h trivial c
    obtain ⟨f33, f35, f31, _⟩ := hF
    have f33 : ((((x.kind == y.kind) && (x.saga == y.saga)) && (x.seq == y.seq)) && (x.step == y.step)) = true → a.tmps.getD 33 undef = .int .i64 (x.tr) := f33
    have f35 : ((((x.kind == y.kind) && (x.saga == y.saga)) && (x.seq == y.seq)) && (x.step == y.step)) = true → a.tmps.getD 35 undef = .int .i64 (y.tr) := f35
    have f31 : a.tmps.getD 31 undef = .bool ((((x.kind == y.kind) && (x.saga == y.saga)) && (x.seq == y.seq)) && (x.step == y.step)) := f31
    refine rely_on (rely_gt f31) (fun hE => ?_) (fun hE => hK _ _ (NewT.refl _) (svIf_off hE))
    replace hK := fun v w' (h : NewT wx w') (c : (SV.eq (.bool (x.tr == y.tr))).pred v w') => hK v w' h (fun _ => c)
    exact opr_cmp (b := x.tr == y.tr) (.inl ⟨rfl, rfl⟩) Tryd.underlying3 rfl (f33 hE) (f35 hE) (hK _ _ (NewT.refl _) rfl)
  · -- 32: Op.pick t31 t36 (const (Value.bool false))
    intro a wx hT hF _ K hK
    replace hK := fun v w' (h : NewT wx w') c => hK v w' h trivial c
    obtain ⟨f31, f36, _⟩ := hF
    have f31 : a.tmps.getD 31 undef = .bool ((((x.kind == y.kind) && (x.saga == y.saga)) && (x.seq == y.seq)) && (x.step == y.step)) := f31
    have f36 : ((((x.kind == y.kind) && (x.saga == y.saga)) && (x.seq == y.seq)) && (x.step == y.step)) = true → a.tmps.getD 36 undef = .bool (x.tr == y.tr) := f36
    refine rely_wp rfl ?_
    exact opr_pick_b rfl f31 (fun hb => hK _ _ (NewT.refl _) (pk_and1 (f36 hb) hb)) (fun hb => hK _ _ (NewT.refl _) (pk_and0 hb))
  · -- 33: Op.move t37
    intro a wx hT hF _ K hK
    replace hK := fun v w' (h : NewT wx w') c => hK v w' h trivial c
    obtain ⟨f37, _⟩ := hF
    have f37 : a.tmps.getD 37 undef = .bool (((((x.kind == y.kind) && (x.saga == y.saga)) && (x.seq == y.seq)) && (x.step == y.step)) && (x.tr == y.tr)) := f37
    refine rely_wp rfl ?_
    exact opr_move (.inl rfl) (hK _ _ (NewT.refl _) f37)
  · -- 34: Op.fieldAddr 27 t2 5
    intro a wx hT hF _ K hK
    replace hK := fun v w' (h : NewT wx w') c => hK v w' h trivial c
    obtain ⟨f2, f38, _⟩ := hF
    have f2 : a.tmps.getD 2 undef = .pointer (some ⟨w.heap.size, 0, none⟩) := f2
    have f38 : a.tmps.getD 38 undef = .bool (((((x.kind == y.kind) && (x.saga == y.saga)) && (x.seq == y.seq)) && (x.step == y.step)) && (x.tr == y.tr)) := f38
    refine rely_on (rely_gt f38) (fun hE => ?_) (fun hE => hK _ _ (NewT.refl _) (svIf_off hE))
    replace hK := fun v w' (h : NewT wx w') (c : (SV.eq (.pointer (some ⟨w.heap.size, 5, none⟩))).pred v w') => hK v w' h (fun _ => c)
    exact opr_fldR (by decide) rfl f2 (hK _ _ (NewT.refl _) rfl)
  · -- 35: Op.load 4 t39
    intro a wx hT hF _ K hK
    replace hK := fun v w' (h : NewT wx w') c => hK v w' h trivial c
    obtain ⟨f39, f38, _⟩ := hF
    have f39 : (((((x.kind == y.kind) && (x.saga == y.saga)) && (x.seq == y.seq)) && (x.step == y.step)) && (x.tr == y.tr)) = true → a.tmps.getD 39 undef = .pointer (some ⟨w.heap.size, 5, none⟩) := f39
    have f38 : a.tmps.getD 38 undef = .bool (((((x.kind == y.kind) && (x.saga == y.saga)) && (x.seq == y.seq)) && (x.step == y.step)) && (x.tr == y.tr)) := f38
    refine rely_on (rely_gt f38) (fun hE => ?_) (fun hE => hK _ _ (NewT.refl _) (svIf_off hE))
    replace hK := fun v w' (h : NewT wx w') (c : (SV.eq (.bool (x.back))).pred v w') => hK v w' h (fun _ => c)
    exact opr_ldQ (hT.row R1.out) (by decide) rfl rfl (f39 hE) (hK _ _ (NewT.refl _) rfl)
  · -- 36: Op.fieldAddr 27 t3 5
    intro a wx hT hF _ K hK
    replace hK := fun v w' (h : NewT wx w') c => hK v w' h trivial c
    obtain ⟨f3, f38, _⟩ := hF
    have f3 : a.tmps.getD 3 undef = .pointer (some ⟨w.heap.size + 1, 0, none⟩) := f3
    have f38 : a.tmps.getD 38 undef = .bool (((((x.kind == y.kind) && (x.saga == y.saga)) && (x.seq == y.seq)) && (x.step == y.step)) && (x.tr == y.tr)) := f38
    refine rely_on (rely_gt f38) (fun hE => ?_) (fun hE => hK _ _ (NewT.refl _) (svIf_off hE))
    replace hK := fun v w' (h : NewT wx w') (c : (SV.eq (.pointer (some ⟨w.heap.size + 1, 5, none⟩))).pred v w') => hK v w' h (fun _ => c)
    exact opr_fldR (by decide) rfl f3 (hK _ _ (NewT.refl _) rfl)
  · -- 37: Op.load 4 t41
    intro a wx hT hF _ K hK
    replace hK := fun v w' (h : NewT wx w') c => hK v w' h trivial c
    obtain ⟨f41, f38, _⟩ := hF
    have f41 : (((((x.kind == y.kind) && (x.saga == y.saga)) && (x.seq == y.seq)) && (x.step == y.step)) && (x.tr == y.tr)) = true → a.tmps.getD 41 undef = .pointer (some ⟨w.heap.size + 1, 5, none⟩) := f41
    have f38 : a.tmps.getD 38 undef = .bool (((((x.kind == y.kind) && (x.saga == y.saga)) && (x.seq == y.seq)) && (x.step == y.step)) && (x.tr == y.tr)) := f38
    refine rely_on (rely_gt f38) (fun hE => ?_) (fun hE => hK _ _ (NewT.refl _) (svIf_off hE))
    replace hK := fun v w' (h : NewT wx w') (c : (SV.eq (.bool (y.back))).pred v w') => hK v w' h (fun _ => c)
    exact opr_ldQ (hT.row R2.out) (by decide) rfl rfl (f41 hE) (hK _ _ (NewT.refl _) rfl)
  · -- 38: Op.binOp BinOp.eql 4 t40 t42 4
    intro a wx hT hF _ K hK
    replace hK := fun v w' (h : NewT wx w') c => hK v w' h trivial c
    obtain ⟨f40, f42, f38, _⟩ := hF
    have f40 : (((((x.kind == y.kind) && (x.saga == y.saga)) && (x.seq == y.seq)) && (x.step == y.step)) && (x.tr == y.tr)) = true → a.tmps.getD 40 undef = .bool (x.back) := f40
    have f42 : (((((x.kind == y.kind) && (x.saga == y.saga)) && (x.seq == y.seq)) && (x.step == y.step)) && (x.tr == y.tr)) = true → a.tmps.getD 42 undef = .bool (y.back) := f42
    have f38 : a.tmps.getD 38 undef = .bool (((((x.kind == y.kind) && (x.saga == y.saga)) && (x.seq == y.seq)) && (x.step == y.step)) && (x.tr == y.tr)) := f38
    refine rely_on (rely_gt f38) (fun hE => ?_) (fun hE => hK _ _ (NewT.refl _) (svIf_off hE))
    replace hK := fun v w' (h : NewT wx w') (c : (SV.eq (.bool (x.back == y.back))).pred v w') => hK v w' h (fun _ => c)
    exact opr_eqlQ (b := x.back == y.back) (rfl) rfl (f40 hE) (f42 hE) (hK _ _ (NewT.refl _) rfl)
  · -- 39: Op.pick t38 t43 (const (Value.bool false))
    intro a wx hT hF _ K hK
    replace hK := fun v w' (h : NewT wx w') c => hK v w' h trivial c
    obtain ⟨f38, f43, _⟩ := hF
    have f38 : a.tmps.getD 38 undef = .bool (((((x.kind == y.kind) && (x.saga == y.saga)) && (x.seq == y.seq)) && (x.step == y.step)) && (x.tr == y.tr)) := f38
    have f43 : (((((x.kind == y.kind) && (x.saga == y.saga)) && (x.seq == y.seq)) && (x.step == y.step)) && (x.tr == y.tr)) = true → a.tmps.getD 43 undef = .bool (x.back == y.back) := f43
    refine rely_wp rfl ?_
    exact opr_pick_b rfl f38 (fun hb => hK _ _ (NewT.refl _) (pk_and1 (f43 hb) hb)) (fun hb => hK _ _ (NewT.refl _) (pk_and0 hb))
  · -- 40: Op.move t44
    intro a wx hT hF _ K hK
    replace hK := fun v w' (h : NewT wx w') c => hK v w' h trivial c
    obtain ⟨f44, _⟩ := hF
    have f44 : a.tmps.getD 44 undef = .bool ((((((x.kind == y.kind) && (x.saga == y.saga)) && (x.seq == y.seq)) && (x.step == y.step)) && (x.tr == y.tr)) && (x.back == y.back)) := f44
    refine rely_wp rfl ?_
    exact opr_move (.inl rfl) (hK _ _ (NewT.refl _) f44)
  · -- 41: Op.fieldAddr 27 t2 6
    intro a wx hT hF _ K hK
    replace hK := fun v w' (h : NewT wx w') c => hK v w' h trivial c
    obtain ⟨f2, f45, _⟩ := hF
    have f2 : a.tmps.getD 2 undef = .pointer (some ⟨w.heap.size, 0, none⟩) := f2
    have f45 : a.tmps.getD 45 undef = .bool ((((((x.kind == y.kind) && (x.saga == y.saga)) && (x.seq == y.seq)) && (x.step == y.step)) && (x.tr == y.tr)) && (x.back == y.back)) := f45
    refine rely_on (rely_gt f45) (fun hE => ?_) (fun hE => hK _ _ (NewT.refl _) (svIf_off hE))
    replace hK := fun v w' (h : NewT wx w') (c : (SV.eq (.pointer (some ⟨w.heap.size, 6, none⟩))).pred v w') => hK v w' h (fun _ => c)
    exact opr_fldR (by decide) rfl f2 (hK _ _ (NewT.refl _) rfl)
  · -- 42: Op.load 4 t46
    intro a wx hT hF _ K hK
    replace hK := fun v w' (h : NewT wx w') c => hK v w' h trivial c
    obtain ⟨f46, f45, _⟩ := hF
    have f46 : ((((((x.kind == y.kind) && (x.saga == y.saga)) && (x.seq == y.seq)) && (x.step == y.step)) && (x.tr == y.tr)) && (x.back == y.back)) = true → a.tmps.getD 46 undef = .pointer (some ⟨w.heap.size, 6, none⟩) := f46
    have f45 : a.tmps.getD 45 undef = .bool ((((((x.kind == y.kind) && (x.saga == y.saga)) && (x.seq == y.seq)) && (x.step == y.step)) && (x.tr == y.tr)) && (x.back == y.back)) := f45
    refine rely_on (rely_gt f45) (fun hE => ?_) (fun hE => hK _ _ (NewT.refl _) (svIf_off hE))
    replace hK := fun v w' (h : NewT wx w') (c : (SV.eq (.bool (x.good))).pred v w') => hK v w' h (fun _ => c)
    exact opr_ldQ (hT.row R1.out) (by decide) rfl rfl (f46 hE) (hK _ _ (NewT.refl _) rfl)
  · -- 43: Op.fieldAddr 27 t3 6
    intro a wx hT hF _ K hK
    replace hK := fun v w' (h : NewT wx w') c => hK v w' h trivial c
    obtain ⟨f3, f45, _⟩ := hF
    have f3 : a.tmps.getD 3 undef = .pointer (some ⟨w.heap.size + 1, 0, none⟩) := f3
    have f45 : a.tmps.getD 45 undef = .bool ((((((x.kind == y.kind) && (x.saga == y.saga)) && (x.seq == y.seq)) && (x.step == y.step)) && (x.tr == y.tr)) && (x.back == y.back)) := f45
    refine rely_on (rely_gt f45) (fun hE => ?_) (fun hE => hK _ _ (NewT.refl _) (svIf_off hE))
    replace hK := fun v w' (h : NewT wx w') (c : (SV.eq (.pointer (some ⟨w.heap.size + 1, 6, none⟩))).pred v w') => hK v w' h (fun _ => c)
    exact opr_fldR (by decide) rfl f3 (hK _ _ (NewT.refl _) rfl)
  · -- 44: Op.load 4 t48
    intro a wx hT hF _ K hK
    replace hK := fun v w' (h : NewT wx w') c => hK v w' h trivial c
    obtain ⟨f48, f45, _⟩ := hF
    have f48 : ((((((x.kind == y.kind) && (x.saga == y.saga)) && (x.seq == y.seq)) && (x.step == y.step)) && (x.tr == y.tr)) && (x.back == y.back)) = true → a.tmps.getD 48 undef = .pointer (some ⟨w.heap.size + 1, 6, none⟩) := f48
    have f45 : a.tmps.getD 45 undef = .bool ((((((x.kind == y.kind) && (x.saga == y.saga)) && (x.seq == y.seq)) && (x.step == y.step)) && (x.tr == y.tr)) && (x.back == y.back)) := f45
    refine rely_on (rely_gt f45) (fun hE => ?_) (fun hE => hK _ _ (NewT.refl _) (svIf_off hE))
    replace hK := fun v w' (h : NewT wx w') (c : (SV.eq (.bool (y.good))).pred v w') => hK v w' h (fun _ => c)
    exact opr_ldQ (hT.row R2.out) (by decide) rfl rfl (f48 hE) (hK _ _ (NewT.refl _) rfl)
  · -- 45: Op.binOp BinOp.eql 4 t47 t49 4
    intro a wx hT hF _ K hK
    replace hK := fun v w' (h : NewT wx w') c => hK v w' h trivial c
    obtain ⟨f47, f49, f45, _⟩ := hF
    have f47 : ((((((x.kind == y.kind) && (x.saga == y.saga)) && (x.seq == y.seq)) && (x.step == y.step)) && (x.tr == y.tr)) && (x.back == y.back)) = true → a.tmps.getD 47 undef = .bool (x.good) := f47
    have f49 : ((((((x.kind == y.kind) && (x.saga == y.saga)) && (x.seq == y.seq)) && (x.step == y.step)) && (x.tr == y.tr)) && (x.back == y.back)) = true → a.tmps.getD 49 undef = .bool (y.good) := f49
    have f45 : a.tmps.getD 45 undef = .bool ((((((x.kind == y.kind) && (x.saga == y.saga)) && (x.seq == y.seq)) && (x.step == y.step)) && (x.tr == y.tr)) && (x.back == y.back)) := f45
    refine rely_on (rely_gt f45) (fun hE => ?_) (fun hE => hK _ _ (NewT.refl _) (svIf_off hE))
    replace hK := fun v w' (h : NewT wx w') (c : (SV.eq (.bool (x.good == y.good))).pred v w') => hK v w' h (fun _ => c)
    exact opr_eqlQ (b := x.good == y.good) (rfl) rfl (f47 hE) (f49 hE) (hK _ _ (NewT.refl _) rfl)
  · -- 46: Op.pick t45 t50 (const (Value.bool false))
    intro a wx hT hF _ K hK
    replace hK := fun v w' (h : NewT wx w') c => hK v w' h trivial c
    obtain ⟨f45, f50, _⟩ := hF
    have f45 : a.tmps.getD 45 undef = .bool ((((((x.kind == y.kind) && (x.saga == y.saga)) && (x.seq == y.seq)) && (x.step == y.step)) && (x.tr == y.tr)) && (x.back == y.back)) := f45
    have f50 : ((((((x.kind == y.kind) && (x.saga == y.saga)) && (x.seq == y.seq)) && (x.step == y.step)) && (x.tr == y.tr)) && (x.back == y.back)) = true → a.tmps.getD 50 undef = .bool (x.good == y.good) := f50
    refine rely_wp rfl ?_
    exact opr_pick_b rfl f45 (fun hb => hK _ _ (NewT.refl _) (pk_and1 (f50 hb) hb)) (fun hb => hK _ _ (NewT.refl _) (pk_and0 hb))
  · -- 47: Op.move t51
    intro a wx hT hF _ K hK
    replace hK := fun v w' (h : NewT wx w') c => hK v w' h trivial c
    obtain ⟨f51, _⟩ := hF
    have f51 : a.tmps.getD 51 undef = .bool (((((((x.kind == y.kind) && (x.saga == y.saga)) && (x.seq == y.seq)) && (x.step == y.step)) && (x.tr == y.tr)) && (x.back == y.back)) && (x.good == y.good)) := f51
    refine rely_wp rfl ?_
    exact opr_move (.inl rfl) (hK _ _ (NewT.refl _) f51)
  · -- 48: Op.fieldAddr 27 t2 7
    intro a wx hT hF _ K hK
    replace hK := fun v w' (h : NewT wx w') c => hK v w' h trivial c
    obtain ⟨f2, f52, _⟩ := hF
    have f2 : a.tmps.getD 2 undef = .pointer (some ⟨w.heap.size, 0, none⟩) := f2
    have f52 : a.tmps.getD 52 undef = .bool (((((((x.kind == y.kind) && (x.saga == y.saga)) && (x.seq == y.seq)) && (x.step == y.step)) && (x.tr == y.tr)) && (x.back == y.back)) && (x.good == y.good)) := f52
    refine rely_on (rely_gt f52) (fun hE => ?_) (fun hE => hK _ _ (NewT.refl _) (svIf_off hE))
    replace hK := fun v w' (h : NewT wx w') (c : (SV.eq (.pointer (some ⟨w.heap.size, 7, none⟩))).pred v w') => hK v w' h (fun _ => c)
    exact opr_fldR (by decide) rfl f2 (hK _ _ (NewT.refl _) rfl)
  · -- 49: Op.load 3 t53
    intro a wx hT hF _ K hK
    replace hK := fun v w' (h : NewT wx w') c => hK v w' h trivial c
    obtain ⟨f53, f52, _⟩ := hF
    have f53 : (((((((x.kind == y.kind) && (x.saga == y.saga)) && (x.seq == y.seq)) && (x.step == y.step)) && (x.tr == y.tr)) && (x.back == y.back)) && (x.good == y.good)) = true → a.tmps.getD 53 undef = .pointer (some ⟨w.heap.size, 7, none⟩) := f53
    have f52 : a.tmps.getD 52 undef = .bool (((((((x.kind == y.kind) && (x.saga == y.saga)) && (x.seq == y.seq)) && (x.step == y.step)) && (x.tr == y.tr)) && (x.back == y.back)) && (x.good == y.good)) := f52
    refine rely_on (rely_gt f52) (fun hE => ?_) (fun hE => hK _ _ (NewT.refl _) (svIf_off hE))
    replace hK := fun v w' (h : NewT wx w') (c : (SV.eq (.int .i64 (x.nd))).pred v w') => hK v w' h (fun _ => c)
    exact opr_ldI (hT.row R1.out) (by decide) rfl rfl (f53 hE) (hK _ _ (NewT.refl _) rfl)
  · -- 50: Op.fieldAddr 27 t3 7
    intro a wx hT hF _ K hK
    replace hK := fun v w' (h : NewT wx w') c => hK v w' h trivial c
    obtain ⟨f3, f52, _⟩ := hF
    have f3 : a.tmps.getD 3 undef = .pointer (some ⟨w.heap.size + 1, 0, none⟩) := f3
    have f52 : a.tmps.getD 52 undef = .bool (((((((x.kind == y.kind) && (x.saga == y.saga)) && (x.seq == y.seq)) && (x.step == y.step)) && (x.tr == y.tr)) && (x.back == y.back)) && (x.good == y.good)) := f52
    refine rely_on (rely_gt f52) (fun hE => ?_) (fun hE => hK _ _ (NewT.refl _) (svIf_off hE))
    replace hK := fun v w' (h : NewT wx w') (c : (SV.eq (.pointer (some ⟨w.heap.size + 1, 7, none⟩))).pred v w') => hK v w' h (fun _ => c)
    exact opr_fldR (by decide) rfl f3 (hK _ _ (NewT.refl _) rfl)
  · -- 51: Op.load 3 t55
    intro a wx hT hF _ K hK
    replace hK := fun v w' (h : NewT wx w') c => hK v w' h trivial c
    obtain ⟨f55, f52, _⟩ := hF
    have f55 : (((((((x.kind == y.kind) && (x.saga == y.saga)) && (x.seq == y.seq)) && (x.step == y.step)) && (x.tr == y.tr)) && (x.back == y.back)) && (x.good == y.good)) = true → a.tmps.getD 55 undef = .pointer (some ⟨w.heap.size + 1, 7, none⟩) := f55
    have f52 : a.tmps.getD 52 undef = .bool (((((((x.kind == y.kind) && (x.saga == y.saga)) && (x.seq == y.seq)) && (x.step == y.step)) && (x.tr == y.tr)) && (x.back == y.back)) && (x.good == y.good)) := f52
    refine rely_on (rely_gt f52) (fun hE => ?_) (fun hE => hK _ _ (NewT.refl _) (svIf_off hE))
    replace hK := fun v w' (h : NewT wx w') (c : (SV.eq (.int .i64 (y.nd))).pred v w') => hK v w' h (fun _ => c)
    exact opr_ldI (hT.row R2.out) (by decide) rfl rfl (f55 hE) (hK _ _ (NewT.refl _) rfl)
  · -- 52: Op.binOp BinOp.eql 3 t54 t56 3
    intro a wx hT hF _ K hK
    replace hK := fun v w' (h : NewT wx w') c => hK v w' h trivial c
    obtain ⟨f54, f56, f52, _⟩ := hF
    have f54 : (((((((x.kind == y.kind) && (x.saga == y.saga)) && (x.seq == y.seq)) && (x.step == y.step)) && (x.tr == y.tr)) && (x.back == y.back)) && (x.good == y.good)) = true → a.tmps.getD 54 undef = .int .i64 (x.nd) := f54
    have f56 : (((((((x.kind == y.kind) && (x.saga == y.saga)) && (x.seq == y.seq)) && (x.step == y.step)) && (x.tr == y.tr)) && (x.back == y.back)) && (x.good == y.good)) = true → a.tmps.getD 56 undef = .int .i64 (y.nd) := f56
    have f52 : a.tmps.getD 52 undef = .bool (((((((x.kind == y.kind) && (x.saga == y.saga)) && (x.seq == y.seq)) && (x.step == y.step)) && (x.tr == y.tr)) && (x.back == y.back)) && (x.good == y.good)) := f52
    refine rely_on (rely_gt f52) (fun hE => ?_) (fun hE => hK _ _ (NewT.refl _) (svIf_off hE))
    replace hK := fun v w' (h : NewT wx w') (c : (SV.eq (.bool (x.nd == y.nd))).pred v w') => hK v w' h (fun _ => c)
    exact opr_cmp (b := x.nd == y.nd) (.inl ⟨rfl, rfl⟩) Tryd.underlying3 rfl (f54 hE) (f56 hE) (hK _ _ (NewT.refl _) rfl)
  · -- 53: Op.pick t52 t57 (const (Value.bool false))
    intro a wx hT hF _ K hK
    replace hK := fun v w' (h : NewT wx w') c => hK v w' h trivial c
    obtain ⟨f52, f57, _⟩ := hF
    have f52 : a.tmps.getD 52 undef = .bool (((((((x.kind == y.kind) && (x.saga == y.saga)) && (x.seq == y.seq)) && (x.step == y.step)) && (x.tr == y.tr)) && (x.back == y.back)) && (x.good == y.good)) := f52
    have f57 : (((((((x.kind == y.kind) && (x.saga == y.saga)) && (x.seq == y.seq)) && (x.step == y.step)) && (x.tr == y.tr)) && (x.back == y.back)) && (x.good == y.good)) = true → a.tmps.getD 57 undef = .bool (x.nd == y.nd) := f57
    refine rely_wp rfl ?_
    exact opr_pick_b rfl f52 (fun hb => hK _ _ (NewT.refl _) (pk_and1 (f57 hb) hb)) (fun hb => hK _ _ (NewT.refl _) (pk_and0 hb))
  · -- 54: Op.move t58
    intro a wx hT hF _ K hK
    replace hK := fun v w' (h : NewT wx w') c => hK v w' h trivial c
    obtain ⟨f58, _⟩ := hF
    have f58 : a.tmps.getD 58 undef = .bool ((((((((x.kind == y.kind) && (x.saga == y.saga)) && (x.seq == y.seq)) && (x.step == y.step)) && (x.tr == y.tr)) && (x.back == y.back)) && (x.good == y.good)) && (x.nd == y.nd)) := f58
    refine rely_wp rfl ?_
    exact opr_move (.inl rfl) (hK _ _ (NewT.refl _) f58)
  · -- 55: Op.fieldAddr 27 t2 8
    intro a wx hT hF _ K hK
    replace hK := fun v w' (h : NewT wx w') c => hK v w' h trivial c
    obtain ⟨f2, f59, _⟩ := hF
    have f2 : a.tmps.getD 2 undef = .pointer (some ⟨w.heap.size, 0, none⟩) := f2
    have f59 : a.tmps.getD 59 undef = .bool ((((((((x.kind == y.kind) && (x.saga == y.saga)) && (x.seq == y.seq)) && (x.step == y.step)) && (x.tr == y.tr)) && (x.back == y.back)) && (x.good == y.good)) && (x.nd == y.nd)) := f59
    refine rely_on (rely_gt f59) (fun hE => ?_) (fun hE => hK _ _ (NewT.refl _) (svIf_off hE))
    replace hK := fun v w' (h : NewT wx w') (c : (SV.eq (.pointer (some ⟨w.heap.size, 8, none⟩))).pred v w') => hK v w' h (fun _ => c)
    exact opr_fldR (by decide) rfl f2 (hK _ _ (NewT.refl _) rfl)
  · -- 56: Op.load 3 t60
    intro a wx hT hF _ K hK
    replace hK := fun v w' (h : NewT wx w') c => hK v w' h trivial c
    obtain ⟨f60, f59, _⟩ := hF
    have f60 : ((((((((x.kind == y.kind) && (x.saga == y.saga)) && (x.seq == y.seq)) && (x.step == y.step)) && (x.tr == y.tr)) && (x.back == y.back)) && (x.good == y.good)) && (x.nd == y.nd)) = true → a.tmps.getD 60 undef = .pointer (some ⟨w.heap.size, 8, none⟩) := f60
    have f59 : a.tmps.getD 59 undef = .bool ((((((((x.kind == y.kind) && (x.saga == y.saga)) && (x.seq == y.seq)) && (x.step == y.step)) && (x.tr == y.tr)) && (x.back == y.back)) && (x.good == y.good)) && (x.nd == y.nd)) := f59
    refine rely_on (rely_gt f59) (fun hE => ?_) (fun hE => hK _ _ (NewT.refl _) (svIf_off hE))
    replace hK := fun v w' (h : NewT wx w') (c : (SV.eq (.int .i64 (x.part))).pred v w') => hK v w' h (fun _ => c)
    exact opr_ldI (hT.row R1.out) (by decide) rfl rfl (f60 hE) (hK _ _ (NewT.refl _) rfl)
  · -- 57: Op.fieldAddr 27 t3 8
    intro a wx hT hF _ K hK
    replace hK := fun v w' (h : NewT wx w') c => hK v w' h trivial c
    obtain ⟨f3, f59, _⟩ := hF
    have f3 : a.tmps.getD 3 undef = .pointer (some ⟨w.heap.size + 1, 0, none⟩) := f3
    have f59 : a.tmps.getD 59 undef = .bool ((((((((x.kind == y.kind) && (x.saga == y.saga)) && (x.seq == y.seq)) && (x.step == y.step)) && (x.tr == y.tr)) && (x.back == y.back)) && (x.good == y.good)) && (x.nd == y.nd)) := f59
    refine rely_on (rely_gt f59) (fun hE => ?_) (fun hE => hK _ _ (NewT.refl _) (svIf_off hE))
    replace hK := fun v w' (h : NewT wx w') (c : (SV.eq (.pointer (some ⟨w.heap.size + 1, 8, none⟩))).pred v w') => hK v w' h (fun _ => c)
    exact opr_fldR (by decide) rfl f3 (hK _ _ (NewT.refl _) rfl)
  · -- 58: Op.load 3 t62
    intro a wx hT hF _ K hK
    replace hK := fun v w' (h : NewT wx w') c => hK v w' h trivial c
    obtain ⟨f62, f59, _⟩ := hF
    have f62 : ((((((((x.kind == y.kind) && (x.saga == y.saga)) && (x.seq == y.seq)) && (x.step == y.step)) && (x.tr == y.tr)) && (x.back == y.back)) && (x.good == y.good)) && (x.nd == y.nd)) = true → a.tmps.getD 62 undef = .pointer (some ⟨w.heap.size + 1, 8, none⟩) := f62
    have f59 : a.tmps.getD 59 undef = .bool ((((((((x.kind == y.kind) && (x.saga == y.saga)) && (x.seq == y.seq)) && (x.step == y.step)) && (x.tr == y.tr)) && (x.back == y.back)) && (x.good == y.good)) && (x.nd == y.nd)) := f59
    refine rely_on (rely_gt f59) (fun hE => ?_) (fun hE => hK _ _ (NewT.refl _) (svIf_off hE))
    replace hK := fun v w' (h : NewT wx w') (c : (SV.eq (.int .i64 (y.part))).pred v w') => hK v w' h (fun _ => c)
    exact opr_ldI (hT.row R2.out) (by decide) rfl rfl (f62 hE) (hK _ _ (NewT.refl _) rfl)
  · -- 59: Op.binOp BinOp.eql 3 t61 t63 3
    intro a wx hT hF _ K hK
    replace hK := fun v w' (h : NewT wx w') c => hK v w' h trivial c
    obtain ⟨f61, f63, f59, _⟩ := hF
    have f61 : ((((((((x.kind == y.kind) && (x.saga == y.saga)) && (x.seq == y.seq)) && (x.step == y.step)) && (x.tr == y.tr)) && (x.back == y.back)) && (x.good == y.good)) && (x.nd == y.nd)) = true → a.tmps.getD 61 undef = .int .i64 (x.part) := f61
    have f63 : ((((((((x.kind == y.kind) && (x.saga == y.saga)) && (x.seq == y.seq)) && (x.step == y.step)) && (x.tr == y.tr)) && (x.back == y.back)) && (x.good == y.good)) && (x.nd == y.nd)) = true → a.tmps.getD 63 undef = .int .i64 (y.part) := f63
    have f59 : a.tmps.getD 59 undef = .bool ((((((((x.kind == y.kind) && (x.saga == y.saga)) && (x.seq == y.seq)) && (x.step == y.step)) && (x.tr == y.tr)) && (x.back == y.back)) && (x.good == y.good)) && (x.nd == y.nd)) := f59
    refine rely_on (rely_gt f59) (fun hE => ?_) (fun hE => hK _ _ (NewT.refl _) (svIf_off hE))
    replace hK := fun v w' (h : NewT wx w') (c : (SV.eq (.bool (x.part == y.part))).pred v w') => hK v w' h (fun _ => c)
    exact opr_cmp (b := x.part == y.part) (.inl ⟨rfl, rfl⟩) Tryd.underlying3 rfl (f61 hE) (f63 hE) (hK _ _ (NewT.refl _) rfl)
  · -- 60: Op.pick t59 t64 (const (Value.bool false))
    intro a wx hT hF _ K hK
    replace hK := fun v w' (h : NewT wx w') c => hK v w' h trivial c
    obtain ⟨f59, f64, _⟩ := hF
    have f59 : a.tmps.getD 59 undef = .bool ((((((((x.kind == y.kind) && (x.saga == y.saga)) && (x.seq == y.seq)) && (x.step == y.step)) && (x.tr == y.tr)) && (x.back == y.back)) && (x.good == y.good)) && (x.nd == y.nd)) := f59
    have f64 : ((((((((x.kind == y.kind) && (x.saga == y.saga)) && (x.seq == y.seq)) && (x.step == y.step)) && (x.tr == y.tr)) && (x.back == y.back)) && (x.good == y.good)) && (x.nd == y.nd)) = true → a.tmps.getD 64 undef = .bool (x.part == y.part) := f64
    refine rely_wp rfl ?_
    exact opr_pick_b rfl f59 (fun hb => hK _ _ (NewT.refl _) (pk_and1 (f64 hb) hb)) (fun hb => hK _ _ (NewT.refl _) (pk_and0 hb))
  · -- 61: Op.move t65
    intro a wx hT hF _ K hK
    replace hK := fun v w' (h : NewT wx w') c => hK v w' h trivial c
    obtain ⟨f65, _⟩ := hF
    have f65 : a.tmps.getD 65 undef = .bool (((((((((x.kind == y.kind) && (x.saga == y.saga)) && (x.seq == y.seq)) && (x.step == y.step)) && (x.tr == y.tr)) && (x.back == y.back)) && (x.good == y.good)) && (x.nd == y.nd)) && (x.part == y.part)) := f65
    refine rely_wp rfl ?_
    exact opr_move (.inl rfl) (hK _ _ (NewT.refl _) f65)
  · -- 62: Op.fieldAddr 27 t2 9
    intro a wx hT hF _ K hK
    replace hK := fun v w' (h : NewT wx w') c => hK v w' h trivial c
    obtain ⟨f2, f66, _⟩ := hF
    have f2 : a.tmps.getD 2 undef = .pointer (some ⟨w.heap.size, 0, none⟩) := f2
    have f66 : a.tmps.getD 66 undef = .bool (((((((((x.kind == y.kind) && (x.saga == y.saga)) && (x.seq == y.seq)) && (x.step == y.step)) && (x.tr == y.tr)) && (x.back == y.back)) && (x.good == y.good)) && (x.nd == y.nd)) && (x.part == y.part)) := f66
    refine rely_on (rely_gt f66) (fun hE => ?_) (fun hE => hK _ _ (NewT.refl _) (svIf_off hE))
    replace hK := fun v w' (h : NewT wx w') (c : (SV.eq (.pointer (some ⟨w.heap.size, 9, none⟩))).pred v w') => hK v w' h (fun _ => c)
    exact opr_fldR (by decide) rfl f2 (hK _ _ (NewT.refl _) rfl)
  · -- 63: Op.load 3 t67
    intro a wx hT hF _ K hK
    replace hK := fun v w' (h : NewT wx w') c => hK v w' h trivial c
    obtain ⟨f67, f66, _⟩ := hF
    have f67 : (((((((((x.kind == y.kind) && (x.saga == y.saga)) && (x.seq == y.seq)) && (x.step == y.step)) && (x.tr == y.tr)) && (x.back == y.back)) && (x.good == y.good)) && (x.nd == y.nd)) && (x.part == y.part)) = true → a.tmps.getD 67 undef = .pointer (some ⟨w.heap.size, 9, none⟩) := f67
    have f66 : a.tmps.getD 66 undef = .bool (((((((((x.kind == y.kind) && (x.saga == y.saga)) && (x.seq == y.seq)) && (x.step == y.step)) && (x.tr == y.tr)) && (x.back == y.back)) && (x.good == y.good)) && (x.nd == y.nd)) && (x.part == y.part)) := f66
    refine rely_on (rely_gt f66) (fun hE => ?_) (fun hE => hK _ _ (NewT.refl _) (svIf_off hE))
    replace hK := fun v w' (h : NewT wx w') (c : (SV.eq (.int .i64 (x.epoch))).pred v w') => hK v w' h (fun _ => c)
    exact opr_ldI (hT.row R1.out) (by decide) rfl rfl (f67 hE) (hK _ _ (NewT.refl _) rfl)
  · -- 64: Op.fieldAddr 27 t3 9
    intro a wx hT hF _ K hK
    replace hK := fun v w' (h : NewT wx w') c => hK v w' h trivial c
    obtain ⟨f3, f66, _⟩ := hF
    have f3 : a.tmps.getD 3 undef = .pointer (some ⟨w.heap.size + 1, 0, none⟩) := f3
    have f66 : a.tmps.getD 66 undef = .bool (((((((((x.kind == y.kind) && (x.saga == y.saga)) && (x.seq == y.seq)) && (x.step == y.step)) && (x.tr == y.tr)) && (x.back == y.back)) && (x.good == y.good)) && (x.nd == y.nd)) && (x.part == y.part)) := f66
    refine rely_on (rely_gt f66) (fun hE => ?_) (fun hE => hK _ _ (NewT.refl _) (svIf_off hE))
    replace hK := fun v w' (h : NewT wx w') (c : (SV.eq (.pointer (some ⟨w.heap.size + 1, 9, none⟩))).pred v w') => hK v w' h (fun _ => c)
    exact opr_fldR (by decide) rfl f3 (hK _ _ (NewT.refl _) rfl)
  · -- 65: Op.load 3 t69
    intro a wx hT hF _ K hK
    replace hK := fun v w' (h : NewT wx w') c => hK v w' h trivial c
    obtain ⟨f69, f66, _⟩ := hF
    have f69 : (((((((((x.kind == y.kind) && (x.saga == y.saga)) && (x.seq == y.seq)) && (x.step == y.step)) && (x.tr == y.tr)) && (x.back == y.back)) && (x.good == y.good)) && (x.nd == y.nd)) && (x.part == y.part)) = true → a.tmps.getD 69 undef = .pointer (some ⟨w.heap.size + 1, 9, none⟩) := f69
    have f66 : a.tmps.getD 66 undef = .bool (((((((((x.kind == y.kind) && (x.saga == y.saga)) && (x.seq == y.seq)) && (x.step == y.step)) && (x.tr == y.tr)) && (x.back == y.back)) && (x.good == y.good)) && (x.nd == y.nd)) && (x.part == y.part)) := f66
    refine rely_on (rely_gt f66) (fun hE => ?_) (fun hE => hK _ _ (NewT.refl _) (svIf_off hE))
    replace hK := fun v w' (h : NewT wx w') (c : (SV.eq (.int .i64 (y.epoch))).pred v w') => hK v w' h (fun _ => c)
    exact opr_ldI (hT.row R2.out) (by decide) rfl rfl (f69 hE) (hK _ _ (NewT.refl _) rfl)
  · -- 66: Op.binOp BinOp.eql 3 t68 t70 3
    intro a wx hT hF _ K hK
    replace hK := fun v w' (h : NewT wx w') c => hK v w' h trivial c
    obtain ⟨f68, f70, f66, _⟩ := hF
    have f68 : (((((((((x.kind == y.kind) && (x.saga == y.saga)) && (x.seq == y.seq)) && (x.step == y.step)) && (x.tr == y.tr)) && (x.back == y.back)) && (x.good == y.good)) && (x.nd == y.nd)) && (x.part == y.part)) = true → a.tmps.getD 68 undef = .int .i64 (x.epoch) := f68
    have f70 : (((((((((x.kind == y.kind) && (x.saga == y.saga)) && (x.seq == y.seq)) && (x.step == y.step)) && (x.tr == y.tr)) && (x.back == y.back)) && (x.good == y.good)) && (x.nd == y.nd)) && (x.part == y.part)) = true → a.tmps.getD 70 undef = .int .i64 (y.epoch) := f70
    have f66 : a.tmps.getD 66 undef = .bool (((((((((x.kind == y.kind) && (x.saga == y.saga)) && (x.seq == y.seq)) && (x.step == y.step)) && (x.tr == y.tr)) && (x.back == y.back)) && (x.good == y.good)) && (x.nd == y.nd)) && (x.part == y.part)) := f66
    refine rely_on (rely_gt f66) (fun hE => ?_) (fun hE => hK _ _ (NewT.refl _) (svIf_off hE))
    replace hK := fun v w' (h : NewT wx w') (c : (SV.eq (.bool (x.epoch == y.epoch))).pred v w') => hK v w' h (fun _ => c)
    exact opr_cmp (b := x.epoch == y.epoch) (.inl ⟨rfl, rfl⟩) Tryd.underlying3 rfl (f68 hE) (f70 hE) (hK _ _ (NewT.refl _) rfl)
  · -- 67: Op.pick t66 t71 (const (Value.bool false))
    intro a wx hT hF _ K hK
    replace hK := fun v w' (h : NewT wx w') c => hK v w' h trivial c
    obtain ⟨f66, f71, _⟩ := hF
    have f66 : a.tmps.getD 66 undef = .bool (((((((((x.kind == y.kind) && (x.saga == y.saga)) && (x.seq == y.seq)) && (x.step == y.step)) && (x.tr == y.tr)) && (x.back == y.back)) && (x.good == y.good)) && (x.nd == y.nd)) && (x.part == y.part)) := f66
    have f71 : (((((((((x.kind == y.kind) && (x.saga == y.saga)) && (x.seq == y.seq)) && (x.step == y.step)) && (x.tr == y.tr)) && (x.back == y.back)) && (x.good == y.good)) && (x.nd == y.nd)) && (x.part == y.part)) = true → a.tmps.getD 71 undef = .bool (x.epoch == y.epoch) := f71
    refine rely_wp rfl ?_
    exact opr_pick_b rfl f66 (fun hb => hK _ _ (NewT.refl _) (pk_and1 (f71 hb) hb)) (fun hb => hK _ _ (NewT.refl _) (pk_and0 hb))
  · -- 68: Op.move t72
    intro a wx hT hF _ K hK
    replace hK := fun v w' (h : NewT wx w') c => hK v w' h trivial c
    obtain ⟨f72, _⟩ := hF
    have f72 : a.tmps.getD 72 undef = .bool ((((((((((x.kind == y.kind) && (x.saga == y.saga)) && (x.seq == y.seq)) && (x.step == y.step)) && (x.tr == y.tr)) && (x.back == y.back)) && (x.good == y.good)) && (x.nd == y.nd)) && (x.part == y.part)) && (x.epoch == y.epoch)) := f72
    refine rely_wp rfl ?_
    exact opr_move (.inl rfl) (hK _ _ (NewT.refl _) f72)
  · -- 69: Op.fieldAddr 27 t2 10
    intro a wx hT hF _ K hK
    replace hK := fun v w' (h : NewT wx w') c => hK v w' h trivial c
    obtain ⟨f2, f73, _⟩ := hF
    have f2 : a.tmps.getD 2 undef = .pointer (some ⟨w.heap.size, 0, none⟩) := f2
    have f73 : a.tmps.getD 73 undef = .bool ((((((((((x.kind == y.kind) && (x.saga == y.saga)) && (x.seq == y.seq)) && (x.step == y.step)) && (x.tr == y.tr)) && (x.back == y.back)) && (x.good == y.good)) && (x.nd == y.nd)) && (x.part == y.part)) && (x.epoch == y.epoch)) := f73
    refine rely_on (rely_gt f73) (fun hE => ?_) (fun hE => hK _ _ (NewT.refl _) (svIf_off hE))
    replace hK := fun v w' (h : NewT wx w') (c : (SV.eq (.pointer (some ⟨w.heap.size, 10, none⟩))).pred v w') => hK v w' h (fun _ => c)
    exact opr_fldR (by decide) rfl f2 (hK _ _ (NewT.refl _) rfl)
  · -- 70: Op.load 23 t74
    intro a wx hT hF _ K hK
    replace hK := fun v w' (h : NewT wx w') c => hK v w' h trivial c
    obtain ⟨f74, f73, _⟩ := hF
    have f74 : ((((((((((x.kind == y.kind) && (x.saga == y.saga)) && (x.seq == y.seq)) && (x.step == y.step)) && (x.tr == y.tr)) && (x.back == y.back)) && (x.good == y.good)) && (x.nd == y.nd)) && (x.part == y.part)) && (x.epoch == y.epoch)) = true → a.tmps.getD 74 undef = .pointer (some ⟨w.heap.size, 10, none⟩) := f74
    have f73 : a.tmps.getD 73 undef = .bool ((((((((((x.kind == y.kind) && (x.saga == y.saga)) && (x.seq == y.seq)) && (x.step == y.step)) && (x.tr == y.tr)) && (x.back == y.back)) && (x.good == y.good)) && (x.nd == y.nd)) && (x.part == y.part)) && (x.epoch == y.epoch)) := f73
    refine rely_on (rely_gt f73) (fun hE => ?_) (fun hE => hK _ _ (NewT.refl _) (svIf_off hE))
    replace hK := fun v w' (h : NewT wx w') (c : (SV.eq (.agg (rowA 32 (bF (x.tag))))).pred v w') => hK v w' h (fun _ => c)
    exact opr_ldH (hT.row R1.out) (by decide) (recF_tag x _ _) rfl (f74 hE) (hK _ _ (NewT.refl _) rfl)
  · -- 71: Op.fieldAddr 27 t3 10
    intro a wx hT hF _ K hK
    replace hK := fun v w' (h : NewT wx w') c => hK v w' h trivial c
    obtain ⟨f3, f73, _⟩ := hF
    have f3 : a.tmps.getD 3 undef = .pointer (some ⟨w.heap.size + 1, 0, none⟩) := f3
    have f73 : a.tmps.getD 73 undef = .bool ((((((((((x.kind == y.kind) && (x.saga == y.saga)) && (x.seq == y.seq)) && (x.step == y.step)) && (x.tr == y.tr)) && (x.back == y.back)) && (x.good == y.good)) && (x.nd == y.nd)) && (x.part == y.part)) && (x.epoch == y.epoch)) := f73
    refine rely_on (rely_gt f73) (fun hE => ?_) (fun hE => hK _ _ (NewT.refl _) (svIf_off hE))
    replace hK := fun v w' (h : NewT wx w') (c : (SV.eq (.pointer (some ⟨w.heap.size + 1, 10, none⟩))).pred v w') => hK v w' h (fun _ => c)
    exact opr_fldR (by decide) rfl f3 (hK _ _ (NewT.refl _) rfl)
  · -- 72: Op.load 23 t76
    intro a wx hT hF _ K hK
    replace hK := fun v w' (h : NewT wx w') c => hK v w' h trivial c
    obtain ⟨f76, f73, _⟩ := hF
    have f76 : ((((((((((x.kind == y.kind) && (x.saga == y.saga)) && (x.seq == y.seq)) && (x.step == y.step)) && (x.tr == y.tr)) && (x.back == y.back)) && (x.good == y.good)) && (x.nd == y.nd)) && (x.part == y.part)) && (x.epoch == y.epoch)) = true → a.tmps.getD 76 undef = .pointer (some ⟨w.heap.size + 1, 10, none⟩) := f76
    have f73 : a.tmps.getD 73 undef = .bool ((((((((((x.kind == y.kind) && (x.saga == y.saga)) && (x.seq == y.seq)) && (x.step == y.step)) && (x.tr == y.tr)) && (x.back == y.back)) && (x.good == y.good)) && (x.nd == y.nd)) && (x.part == y.part)) && (x.epoch == y.epoch)) := f73
    refine rely_on (rely_gt f73) (fun hE => ?_) (fun hE => hK _ _ (NewT.refl _) (svIf_off hE))
    replace hK := fun v w' (h : NewT wx w') (c : (SV.eq (.agg (rowA 32 (bF (y.tag))))).pred v w') => hK v w' h (fun _ => c)
    exact opr_ldH (hT.row R2.out) (by decide) (recF_tag y _ _) rfl (f76 hE) (hK _ _ (NewT.refl _) rfl)
  · -- 73: Op.binOp BinOp.eql 23 t75 t77 23
    intro a wx hT hF _ K hK
    replace hK := fun v w' (h : NewT wx w') c => hK v w' h trivial c
    obtain ⟨f75, f77, f73, _⟩ := hF
    have f75 : ((((((((((x.kind == y.kind) && (x.saga == y.saga)) && (x.seq == y.seq)) && (x.step == y.step)) && (x.tr == y.tr)) && (x.back == y.back)) && (x.good == y.good)) && (x.nd == y.nd)) && (x.part == y.part)) && (x.epoch == y.epoch)) = true → a.tmps.getD 75 undef = .agg (rowA 32 (bF (x.tag))) := f75
    have f77 : ((((((((((x.kind == y.kind) && (x.saga == y.saga)) && (x.seq == y.seq)) && (x.step == y.step)) && (x.tr == y.tr)) && (x.back == y.back)) && (x.good == y.good)) && (x.nd == y.nd)) && (x.part == y.part)) && (x.epoch == y.epoch)) = true → a.tmps.getD 77 undef = .agg (rowA 32 (bF (y.tag))) := f77
    have f73 : a.tmps.getD 73 undef = .bool ((((((((((x.kind == y.kind) && (x.saga == y.saga)) && (x.seq == y.seq)) && (x.step == y.step)) && (x.tr == y.tr)) && (x.back == y.back)) && (x.good == y.good)) && (x.nd == y.nd)) && (x.part == y.part)) && (x.epoch == y.epoch)) := f73
    refine rely_on (rely_gt f73) (fun hE => ?_) (fun hE => hK _ _ (NewT.refl _) (svIf_off hE))
    replace hK := fun v w' (h : NewT wx w') (c : (SV.eq (.bool (eqH (x.tag) (y.tag)))).pred v w') => hK v w' h (fun _ => c)
    exact opr_eql_hash (b := eqH (x.tag) (y.tag)) rfl (f75 hE) (f77 hE) (rfl) (hK _ _ (NewT.refl _) rfl)
  · -- 74: Op.pick t73 t78 (const (Value.bool false))
    intro a wx hT hF _ K hK
    replace hK := fun v w' (h : NewT wx w') c => hK v w' h trivial c
    obtain ⟨f73, f78, _⟩ := hF
    have f73 : a.tmps.getD 73 undef = .bool ((((((((((x.kind == y.kind) && (x.saga == y.saga)) && (x.seq == y.seq)) && (x.step == y.step)) && (x.tr == y.tr)) && (x.back == y.back)) && (x.good == y.good)) && (x.nd == y.nd)) && (x.part == y.part)) && (x.epoch == y.epoch)) := f73
    have f78 : ((((((((((x.kind == y.kind) && (x.saga == y.saga)) && (x.seq == y.seq)) && (x.step == y.step)) && (x.tr == y.tr)) && (x.back == y.back)) && (x.good == y.good)) && (x.nd == y.nd)) && (x.part == y.part)) && (x.epoch == y.epoch)) = true → a.tmps.getD 78 undef = .bool (eqH (x.tag) (y.tag)) := f78
    refine rely_wp rfl ?_
    exact opr_pick_b rfl f73 (fun hb => hK _ _ (NewT.refl _) (pk_and1 (f78 hb) hb)) (fun hb => hK _ _ (NewT.refl _) (pk_and0 hb))
  · -- 75: Op.move t79
    intro a wx hT hF _ K hK
    replace hK := fun v w' (h : NewT wx w') c => hK v w' h trivial c
    obtain ⟨f79, _⟩ := hF
    have f79 : a.tmps.getD 79 undef = .bool (((((((((((x.kind == y.kind) && (x.saga == y.saga)) && (x.seq == y.seq)) && (x.step == y.step)) && (x.tr == y.tr)) && (x.back == y.back)) && (x.good == y.good)) && (x.nd == y.nd)) && (x.part == y.part)) && (x.epoch == y.epoch)) && (eqH (x.tag) (y.tag))) := f79
    refine rely_wp rfl ?_
    exact opr_move (.inl rfl) (hK _ _ (NewT.refl _) f79)
  · -- 76: Op.fieldAddr 27 t2 11
    intro a wx hT hF _ K hK
    replace hK := fun v w' (h : NewT wx w') c => hK v w' h trivial c
    obtain ⟨f2, f80, _⟩ := hF
    have f2 : a.tmps.getD 2 undef = .pointer (some ⟨w.heap.size, 0, none⟩) := f2
    have f80 : a.tmps.getD 80 undef = .bool (((((((((((x.kind == y.kind) && (x.saga == y.saga)) && (x.seq == y.seq)) && (x.step == y.step)) && (x.tr == y.tr)) && (x.back == y.back)) && (x.good == y.good)) && (x.nd == y.nd)) && (x.part == y.part)) && (x.epoch == y.epoch)) && (eqH (x.tag) (y.tag))) := f80
    refine rely_on (rely_gt f80) (fun hE => ?_) (fun hE => hK _ _ (NewT.refl _) (svIf_off hE))
    replace hK := fun v w' (h : NewT wx w') (c : (SV.eq (.pointer (some ⟨w.heap.size, 42, none⟩))).pred v w') => hK v w' h (fun _ => c)
    exact opr_fldR (by decide) rfl f2 (hK _ _ (NewT.refl _) rfl)
  · -- 77: Op.load 24 t81
    intro a wx hT hF _ K hK
    replace hK := fun v w' (h : NewT wx w') c => hK v w' h trivial c
    obtain ⟨f81, f80, _⟩ := hF
    have f81 : (((((((((((x.kind == y.kind) && (x.saga == y.saga)) && (x.seq == y.seq)) && (x.step == y.step)) && (x.tr == y.tr)) && (x.back == y.back)) && (x.good == y.good)) && (x.nd == y.nd)) && (x.part == y.part)) && (x.epoch == y.epoch)) && (eqH (x.tag) (y.tag))) = true → a.tmps.getD 81 undef = .pointer (some ⟨w.heap.size, 42, none⟩) := f81
    have f80 : a.tmps.getD 80 undef = .bool (((((((((((x.kind == y.kind) && (x.saga == y.saga)) && (x.seq == y.seq)) && (x.step == y.step)) && (x.tr == y.tr)) && (x.back == y.back)) && (x.good == y.good)) && (x.nd == y.nd)) && (x.part == y.part)) && (x.epoch == y.epoch)) && (eqH (x.tag) (y.tag))) := f80
    refine rely_on (rely_gt f80) (fun hE => ?_) (fun hE => hK _ _ (NewT.refl _) (svIf_off hE))
    replace hK := fun v w' (h : NewT wx w') (c : (SV.eq (sv)).pred v w') => hK v w' h (fun _ => c)
    exact opr_ldS (hT.row R1.out) (by decide) rfl rfl (f81 hE) (hK _ _ (NewT.refl _) rfl)
  · -- 78: Op.fieldAddr 27 t3 11
    intro a wx hT hF _ K hK
    replace hK := fun v w' (h : NewT wx w') c => hK v w' h trivial c
    obtain ⟨f3, f80, _⟩ := hF
    have f3 : a.tmps.getD 3 undef = .pointer (some ⟨w.heap.size + 1, 0, none⟩) := f3
    have f80 : a.tmps.getD 80 undef = .bool (((((((((((x.kind == y.kind) && (x.saga == y.saga)) && (x.seq == y.seq)) && (x.step == y.step)) && (x.tr == y.tr)) && (x.back == y.back)) && (x.good == y.good)) && (x.nd == y.nd)) && (x.part == y.part)) && (x.epoch == y.epoch)) && (eqH (x.tag) (y.tag))) := f80
    refine rely_on (rely_gt f80) (fun hE => ?_) (fun hE => hK _ _ (NewT.refl _) (svIf_off hE))
    replace hK := fun v w' (h : NewT wx w') (c : (SV.eq (.pointer (some ⟨w.heap.size + 1, 42, none⟩))).pred v w') => hK v w' h (fun _ => c)
    exact opr_fldR (by decide) rfl f3 (hK _ _ (NewT.refl _) rfl)
  · -- 79: Op.load 24 t83
    intro a wx hT hF _ K hK
    replace hK := fun v w' (h : NewT wx w') c => hK v w' h trivial c
    obtain ⟨f83, f80, _⟩ := hF
    have f83 : (((((((((((x.kind == y.kind) && (x.saga == y.saga)) && (x.seq == y.seq)) && (x.step == y.step)) && (x.tr == y.tr)) && (x.back == y.back)) && (x.good == y.good)) && (x.nd == y.nd)) && (x.part == y.part)) && (x.epoch == y.epoch)) && (eqH (x.tag) (y.tag))) = true → a.tmps.getD 83 undef = .pointer (some ⟨w.heap.size + 1, 42, none⟩) := f83
    have f80 : a.tmps.getD 80 undef = .bool (((((((((((x.kind == y.kind) && (x.saga == y.saga)) && (x.seq == y.seq)) && (x.step == y.step)) && (x.tr == y.tr)) && (x.back == y.back)) && (x.good == y.good)) && (x.nd == y.nd)) && (x.part == y.part)) && (x.epoch == y.epoch)) && (eqH (x.tag) (y.tag))) := f80
    refine rely_on (rely_gt f80) (fun hE => ?_) (fun hE => hK _ _ (NewT.refl _) (svIf_off hE))
    replace hK := fun v w' (h : NewT wx w') (c : (SV.eq (su)).pred v w') => hK v w' h (fun _ => c)
    exact opr_ldS (hT.row R2.out) (by decide) rfl rfl (f83 hE) (hK _ _ (NewT.refl _) rfl)
  · -- 80: Op.call ( value (Operand.func 33), args := #[t82, t84], argTypes := #[
    intro a wx hT hF _ K hK
    replace hK := fun v w' (h : NewT wx w') c => hK v w' h trivial c
    obtain ⟨f82, f84, f80, _⟩ := hF
    have f82 : (((((((((((x.kind == y.kind) && (x.saga == y.saga)) && (x.seq == y.seq)) && (x.step == y.step)) && (x.tr == y.tr)) && (x.back == y.back)) && (x.good == y.good)) && (x.nd == y.nd)) && (x.part == y.part)) && (x.epoch == y.epoch)) && (eqH (x.tag) (y.tag))) = true → a.tmps.getD 82 undef = sv := f82
    have f84 : (((((((((((x.kind == y.kind) && (x.saga == y.saga)) && (x.seq == y.seq)) && (x.step == y.step)) && (x.tr == y.tr)) && (x.back == y.back)) && (x.good == y.good)) && (x.nd == y.nd)) && (x.part == y.part)) && (x.epoch == y.epoch)) && (eqH (x.tag) (y.tag))) = true → a.tmps.getD 84 undef = su := f84
    have f80 : a.tmps.getD 80 undef = .bool (((((((((((x.kind == y.kind) && (x.saga == y.saga)) && (x.seq == y.seq)) && (x.step == y.step)) && (x.tr == y.tr)) && (x.back == y.back)) && (x.good == y.good)) && (x.nd == y.nd)) && (x.part == y.part)) && (x.epoch == y.epoch)) && (eqH (x.tag) (y.tag))) := f80
    refine rely_on (rely_gt f80) (fun hE => ?_) (fun hE => hK _ _ (NewT.refl _) (svIf_off hE))
    replace hK := fun v w' (h : NewT wx w') (c : (SV.eq (.bool (decide (x.steps = y.steps)))).pred v w') => hK v w' h (fun _ => c)
    exact opr_cv (RSteps_cv _ _ x.steps y.steps wx (hT.pairs HS.out) (hT.pairs HU.out)) rfl Tryd.func33 (by kernel_rfl) (by kernel_rfl) (by simp only [List.map_toArray, List.map_cons, List.map_nil, eval_tmp, (f82 hE), (f84 hE)]) hK
  · -- 81: Op.pick t80 t85 (const (Value.bool false))
    intro a wx hT hF _ K hK
    replace hK := fun v w' (h : NewT wx w') c => hK v w' h trivial c
    obtain ⟨f80, f85, _⟩ := hF
    have f80 : a.tmps.getD 80 undef = .bool (((((((((((x.kind == y.kind) && (x.saga == y.saga)) && (x.seq == y.seq)) && (x.step == y.step)) && (x.tr == y.tr)) && (x.back == y.back)) && (x.good == y.good)) && (x.nd == y.nd)) && (x.part == y.part)) && (x.epoch == y.epoch)) && (eqH (x.tag) (y.tag))) := f80
    have f85 : (((((((((((x.kind == y.kind) && (x.saga == y.saga)) && (x.seq == y.seq)) && (x.step == y.step)) && (x.tr == y.tr)) && (x.back == y.back)) && (x.good == y.good)) && (x.nd == y.nd)) && (x.part == y.part)) && (x.epoch == y.epoch)) && (eqH (x.tag) (y.tag))) = true → a.tmps.getD 85 undef = .bool (decide (x.steps = y.steps)) := f85
    refine rely_wp rfl ?_
    exact opr_pick_b rfl f80 (fun hb => hK _ _ (NewT.refl _) (pk_and1 (f85 hb) hb)) (fun hb => hK _ _ (NewT.refl _) (pk_and0 hb))
  · -- 82: Op.move t86
    intro a wx hT hF _ K hK
    replace hK := fun v w' (h : NewT wx w') c => hK v w' h trivial c
    obtain ⟨f86, _⟩ := hF
    have f86 : a.tmps.getD 86 undef = .bool ((((((((((((x.kind == y.kind) && (x.saga == y.saga)) && (x.seq == y.seq)) && (x.step == y.step)) && (x.tr == y.tr)) && (x.back == y.back)) && (x.good == y.good)) && (x.nd == y.nd)) && (x.part == y.part)) && (x.epoch == y.epoch)) && (eqH (x.tag) (y.tag))) && (decide (x.steps = y.steps))) := f86
    refine rely_wp rfl ?_
    exact opr_move (.inl rfl) (hK _ _ (NewT.refl _) f86)
  · -- 83: Op.fieldAddr 27 t2 12
    intro a wx hT hF _ K hK
    replace hK := fun v w' (h : NewT wx w') c => hK v w' h trivial c
    obtain ⟨f2, f87, _⟩ := hF
    have f2 : a.tmps.getD 2 undef = .pointer (some ⟨w.heap.size, 0, none⟩) := f2
    have f87 : a.tmps.getD 87 undef = .bool ((((((((((((x.kind == y.kind) && (x.saga == y.saga)) && (x.seq == y.seq)) && (x.step == y.step)) && (x.tr == y.tr)) && (x.back == y.back)) && (x.good == y.good)) && (x.nd == y.nd)) && (x.part == y.part)) && (x.epoch == y.epoch)) && (eqH (x.tag) (y.tag))) && (decide (x.steps = y.steps))) := f87
    refine rely_on (rely_gt f87) (fun hE => ?_) (fun hE => hK _ _ (NewT.refl _) (svIf_off hE))
    replace hK := fun v w' (h : NewT wx w') (c : (SV.eq (.pointer (some ⟨w.heap.size, 43, none⟩))).pred v w') => hK v w' h (fun _ => c)
    exact opr_fldR (by decide) rfl f2 (hK _ _ (NewT.refl _) rfl)
  · -- 84: Op.load 25 t88
    intro a wx hT hF _ K hK
    replace hK := fun v w' (h : NewT wx w') c => hK v w' h trivial c
    obtain ⟨f88, f87, _⟩ := hF
    have f88 : ((((((((((((x.kind == y.kind) && (x.saga == y.saga)) && (x.seq == y.seq)) && (x.step == y.step)) && (x.tr == y.tr)) && (x.back == y.back)) && (x.good == y.good)) && (x.nd == y.nd)) && (x.part == y.part)) && (x.epoch == y.epoch)) && (eqH (x.tag) (y.tag))) && (decide (x.steps = y.steps))) = true → a.tmps.getD 88 undef = .pointer (some ⟨w.heap.size, 43, none⟩) := f88
    have f87 : a.tmps.getD 87 undef = .bool ((((((((((((x.kind == y.kind) && (x.saga == y.saga)) && (x.seq == y.seq)) && (x.step == y.step)) && (x.tr == y.tr)) && (x.back == y.back)) && (x.good == y.good)) && (x.nd == y.nd)) && (x.part == y.part)) && (x.epoch == y.epoch)) && (eqH (x.tag) (y.tag))) && (decide (x.steps = y.steps))) := f87
    refine rely_on (rely_gt f87) (fun hE => ?_) (fun hE => hK _ _ (NewT.refl _) (svIf_off hE))
    replace hK := fun v w' (h : NewT wx w') (c : (SV.eq (dv)).pred v w') => hK v w' h (fun _ => c)
    exact opr_ldB (hT.row R1.out) (by decide) rfl rfl (f88 hE) (hK _ _ (NewT.refl _) rfl)
  · -- 85: Op.fieldAddr 27 t3 12
    intro a wx hT hF _ K hK
    replace hK := fun v w' (h : NewT wx w') c => hK v w' h trivial c
    obtain ⟨f3, f87, _⟩ := hF
    have f3 : a.tmps.getD 3 undef = .pointer (some ⟨w.heap.size + 1, 0, none⟩) := f3
    have f87 : a.tmps.getD 87 undef = .bool ((((((((((((x.kind == y.kind) && (x.saga == y.saga)) && (x.seq == y.seq)) && (x.step == y.step)) && (x.tr == y.tr)) && (x.back == y.back)) && (x.good == y.good)) && (x.nd == y.nd)) && (x.part == y.part)) && (x.epoch == y.epoch)) && (eqH (x.tag) (y.tag))) && (decide (x.steps = y.steps))) := f87
    refine rely_on (rely_gt f87) (fun hE => ?_) (fun hE => hK _ _ (NewT.refl _) (svIf_off hE))
    replace hK := fun v w' (h : NewT wx w') (c : (SV.eq (.pointer (some ⟨w.heap.size + 1, 43, none⟩))).pred v w') => hK v w' h (fun _ => c)
    exact opr_fldR (by decide) rfl f3 (hK _ _ (NewT.refl _) rfl)
  · -- 86: Op.load 25 t90
    intro a wx hT hF _ K hK
    replace hK := fun v w' (h : NewT wx w') c => hK v w' h trivial c
    obtain ⟨f90, f87, _⟩ := hF
    have f90 : ((((((((((((x.kind == y.kind) && (x.saga == y.saga)) && (x.seq == y.seq)) && (x.step == y.step)) && (x.tr == y.tr)) && (x.back == y.back)) && (x.good == y.good)) && (x.nd == y.nd)) && (x.part == y.part)) && (x.epoch == y.epoch)) && (eqH (x.tag) (y.tag))) && (decide (x.steps = y.steps))) = true → a.tmps.getD 90 undef = .pointer (some ⟨w.heap.size + 1, 43, none⟩) := f90
    have f87 : a.tmps.getD 87 undef = .bool ((((((((((((x.kind == y.kind) && (x.saga == y.saga)) && (x.seq == y.seq)) && (x.step == y.step)) && (x.tr == y.tr)) && (x.back == y.back)) && (x.good == y.good)) && (x.nd == y.nd)) && (x.part == y.part)) && (x.epoch == y.epoch)) && (eqH (x.tag) (y.tag))) && (decide (x.steps = y.steps))) := f87
    refine rely_on (rely_gt f87) (fun hE => ?_) (fun hE => hK _ _ (NewT.refl _) (svIf_off hE))
    replace hK := fun v w' (h : NewT wx w') (c : (SV.eq (du)).pred v w') => hK v w' h (fun _ => c)
    exact opr_ldB (hT.row R2.out) (by decide) rfl rfl (f90 hE) (hK _ _ (NewT.refl _) rfl)
  · -- 87: Op.call ( value (Operand.func 19), args := #[t89, t91], argTypes := #[
    intro a wx hT hF _ K hK
    replace hK := fun v w' (h : NewT wx w') c => hK v w' h trivial c
    obtain ⟨f89, f91, f87, _⟩ := hF
    have f89 : ((((((((((((x.kind == y.kind) && (x.saga == y.saga)) && (x.seq == y.seq)) && (x.step == y.step)) && (x.tr == y.tr)) && (x.back == y.back)) && (x.good == y.good)) && (x.nd == y.nd)) && (x.part == y.part)) && (x.epoch == y.epoch)) && (eqH (x.tag) (y.tag))) && (decide (x.steps = y.steps))) = true → a.tmps.getD 89 undef = dv := f89
    have f91 : ((((((((((((x.kind == y.kind) && (x.saga == y.saga)) && (x.seq == y.seq)) && (x.step == y.step)) && (x.tr == y.tr)) && (x.back == y.back)) && (x.good == y.good)) && (x.nd == y.nd)) && (x.part == y.part)) && (x.epoch == y.epoch)) && (eqH (x.tag) (y.tag))) && (decide (x.steps = y.steps))) = true → a.tmps.getD 91 undef = du := f91
    have f87 : a.tmps.getD 87 undef = .bool ((((((((((((x.kind == y.kind) && (x.saga == y.saga)) && (x.seq == y.seq)) && (x.step == y.step)) && (x.tr == y.tr)) && (x.back == y.back)) && (x.good == y.good)) && (x.nd == y.nd)) && (x.part == y.part)) && (x.epoch == y.epoch)) && (eqH (x.tag) (y.tag))) && (decide (x.steps = y.steps))) := f87
    refine rely_on (rely_gt f87) (fun hE => ?_) (fun hE => hK _ _ (NewT.refl _) (svIf_off hE))
    replace hK := fun v w' (h : NewT wx w') (c : (SV.eq (.bool (decide (x.data = y.data)))).pred v w') => hK v w' h (fun _ => c)
    exact opr_cv (Bytes_cv _ _ x.data y.data wx (hT.rd HD.out) (hT.rd HE.out) hl hm) rfl Tryd.func19 (by kernel_rfl) (by kernel_rfl) (by simp only [List.map_toArray, List.map_cons, List.map_nil, eval_tmp, (f89 hE), (f91 hE)]) hK
  · -- 88: Op.pick t87 t92 (const (Value.bool false))
    intro a wx hT hF _ K hK
    replace hK := fun v w' (h : NewT wx w') c => hK v w' h trivial c
    obtain ⟨f87, f92, _⟩ := hF
    have f87 : a.tmps.getD 87 undef = .bool ((((((((((((x.kind == y.kind) && (x.saga == y.saga)) && (x.seq == y.seq)) && (x.step == y.step)) && (x.tr == y.tr)) && (x.back == y.back)) && (x.good == y.good)) && (x.nd == y.nd)) && (x.part == y.part)) && (x.epoch == y.epoch)) && (eqH (x.tag) (y.tag))) && (decide (x.steps = y.steps))) := f87
    have f92 : ((((((((((((x.kind == y.kind) && (x.saga == y.saga)) && (x.seq == y.seq)) && (x.step == y.step)) && (x.tr == y.tr)) && (x.back == y.back)) && (x.good == y.good)) && (x.nd == y.nd)) && (x.part == y.part)) && (x.epoch == y.epoch)) && (eqH (x.tag) (y.tag))) && (decide (x.steps = y.steps))) = true → a.tmps.getD 92 undef = .bool (decide (x.data = y.data)) := f92
    refine rely_wp rfl ?_
    exact opr_pick_b rfl f87 (fun hb => hK _ _ (NewT.refl _) (pk_and1 (f92 hb) hb)) (fun hb => hK _ _ (NewT.refl _) (pk_and0 hb))
  · -- 89: Op.move t93
    intro a wx hT hF _ K hK
    replace hK := fun v w' (h : NewT wx w') c => hK v w' h trivial c
    obtain ⟨f93, _⟩ := hF
    have f93 : a.tmps.getD 93 undef = .bool (((((((((((((x.kind == y.kind) && (x.saga == y.saga)) && (x.seq == y.seq)) && (x.step == y.step)) && (x.tr == y.tr)) && (x.back == y.back)) && (x.good == y.good)) && (x.nd == y.nd)) && (x.part == y.part)) && (x.epoch == y.epoch)) && (eqH (x.tag) (y.tag))) && (decide (x.steps = y.steps))) && (decide (x.data = y.data))) := f93
    refine rely_wp rfl ?_
    exact opr_move (.inl rfl) (hK _ _ (NewT.refl _) f93)
  · -- 90: Op.fieldAddr 27 t2 13
    intro a wx hT hF _ K hK
    replace hK := fun v w' (h : NewT wx w') c => hK v w' h trivial c
    obtain ⟨f2, f94, _⟩ := hF
    have f2 : a.tmps.getD 2 undef = .pointer (some ⟨w.heap.size, 0, none⟩) := f2
    have f94 : a.tmps.getD 94 undef = .bool (((((((((((((x.kind == y.kind) && (x.saga == y.saga)) && (x.seq == y.seq)) && (x.step == y.step)) && (x.tr == y.tr)) && (x.back == y.back)) && (x.good == y.good)) && (x.nd == y.nd)) && (x.part == y.part)) && (x.epoch == y.epoch)) && (eqH (x.tag) (y.tag))) && (decide (x.steps = y.steps))) && (decide (x.data = y.data))) := f94
    refine rely_on (rely_gt f94) (fun hE => ?_) (fun hE => hK _ _ (NewT.refl _) (svIf_off hE))
    replace hK := fun v w' (h : NewT wx w') (c : (SV.eq (.pointer (some ⟨w.heap.size, 44, none⟩))).pred v w') => hK v w' h (fun _ => c)
    exact opr_fldR (by decide) rfl f2 (hK _ _ (NewT.refl _) rfl)
  · -- 91: Op.load 23 t95
    intro a wx hT hF _ K hK
    replace hK := fun v w' (h : NewT wx w') c => hK v w' h trivial c
    obtain ⟨f95, f94, _⟩ := hF
    have f95 : (((((((((((((x.kind == y.kind) && (x.saga == y.saga)) && (x.seq == y.seq)) && (x.step == y.step)) && (x.tr == y.tr)) && (x.back == y.back)) && (x.good == y.good)) && (x.nd == y.nd)) && (x.part == y.part)) && (x.epoch == y.epoch)) && (eqH (x.tag) (y.tag))) && (decide (x.steps = y.steps))) && (decide (x.data = y.data))) = true → a.tmps.getD 95 undef = .pointer (some ⟨w.heap.size, 44, none⟩) := f95
    have f94 : a.tmps.getD 94 undef = .bool (((((((((((((x.kind == y.kind) && (x.saga == y.saga)) && (x.seq == y.seq)) && (x.step == y.step)) && (x.tr == y.tr)) && (x.back == y.back)) && (x.good == y.good)) && (x.nd == y.nd)) && (x.part == y.part)) && (x.epoch == y.epoch)) && (eqH (x.tag) (y.tag))) && (decide (x.steps = y.steps))) && (decide (x.data = y.data))) := f94
    refine rely_on (rely_gt f94) (fun hE => ?_) (fun hE => hK _ _ (NewT.refl _) (svIf_off hE))
    replace hK := fun v w' (h : NewT wx w') (c : (SV.eq (.agg (rowA 32 (bF (x.salt))))).pred v w') => hK v w' h (fun _ => c)
    exact opr_ldH (hT.row R1.out) (by decide) (recF_salt x _ _) rfl (f95 hE) (hK _ _ (NewT.refl _) rfl)
  · -- 92: Op.fieldAddr 27 t3 13
    intro a wx hT hF _ K hK
    replace hK := fun v w' (h : NewT wx w') c => hK v w' h trivial c
    obtain ⟨f3, f94, _⟩ := hF
    have f3 : a.tmps.getD 3 undef = .pointer (some ⟨w.heap.size + 1, 0, none⟩) := f3
    have f94 : a.tmps.getD 94 undef = .bool (((((((((((((x.kind == y.kind) && (x.saga == y.saga)) && (x.seq == y.seq)) && (x.step == y.step)) && (x.tr == y.tr)) && (x.back == y.back)) && (x.good == y.good)) && (x.nd == y.nd)) && (x.part == y.part)) && (x.epoch == y.epoch)) && (eqH (x.tag) (y.tag))) && (decide (x.steps = y.steps))) && (decide (x.data = y.data))) := f94
    refine rely_on (rely_gt f94) (fun hE => ?_) (fun hE => hK _ _ (NewT.refl _) (svIf_off hE))
    replace hK := fun v w' (h : NewT wx w') (c : (SV.eq (.pointer (some ⟨w.heap.size + 1, 44, none⟩))).pred v w') => hK v w' h (fun _ => c)
    exact opr_fldR (by decide) rfl f3 (hK _ _ (NewT.refl _) rfl)
  · -- 93: Op.load 23 t97
    intro a wx hT hF _ K hK
    replace hK := fun v w' (h : NewT wx w') c => hK v w' h trivial c
    obtain ⟨f97, f94, _⟩ := hF
    have f97 : (((((((((((((x.kind == y.kind) && (x.saga == y.saga)) && (x.seq == y.seq)) && (x.step == y.step)) && (x.tr == y.tr)) && (x.back == y.back)) && (x.good == y.good)) && (x.nd == y.nd)) && (x.part == y.part)) && (x.epoch == y.epoch)) && (eqH (x.tag) (y.tag))) && (decide (x.steps = y.steps))) && (decide (x.data = y.data))) = true → a.tmps.getD 97 undef = .pointer (some ⟨w.heap.size + 1, 44, none⟩) := f97
    have f94 : a.tmps.getD 94 undef = .bool (((((((((((((x.kind == y.kind) && (x.saga == y.saga)) && (x.seq == y.seq)) && (x.step == y.step)) && (x.tr == y.tr)) && (x.back == y.back)) && (x.good == y.good)) && (x.nd == y.nd)) && (x.part == y.part)) && (x.epoch == y.epoch)) && (eqH (x.tag) (y.tag))) && (decide (x.steps = y.steps))) && (decide (x.data = y.data))) := f94
    refine rely_on (rely_gt f94) (fun hE => ?_) (fun hE => hK _ _ (NewT.refl _) (svIf_off hE))
    replace hK := fun v w' (h : NewT wx w') (c : (SV.eq (.agg (rowA 32 (bF (y.salt))))).pred v w') => hK v w' h (fun _ => c)
    exact opr_ldH (hT.row R2.out) (by decide) (recF_salt y _ _) rfl (f97 hE) (hK _ _ (NewT.refl _) rfl)
  · -- 94: Op.binOp BinOp.eql 23 t96 t98 23
    intro a wx hT hF _ K hK
    replace hK := fun v w' (h : NewT wx w') c => hK v w' h trivial c
    obtain ⟨f96, f98, f94, _⟩ := hF
    have f96 : (((((((((((((x.kind == y.kind) && (x.saga == y.saga)) && (x.seq == y.seq)) && (x.step == y.step)) && (x.tr == y.tr)) && (x.back == y.back)) && (x.good == y.good)) && (x.nd == y.nd)) && (x.part == y.part)) && (x.epoch == y.epoch)) && (eqH (x.tag) (y.tag))) && (decide (x.steps = y.steps))) && (decide (x.data = y.data))) = true → a.tmps.getD 96 undef = .agg (rowA 32 (bF (x.salt))) := f96
    have f98 : (((((((((((((x.kind == y.kind) && (x.saga == y.saga)) && (x.seq == y.seq)) && (x.step == y.step)) && (x.tr == y.tr)) && (x.back == y.back)) && (x.good == y.good)) && (x.nd == y.nd)) && (x.part == y.part)) && (x.epoch == y.epoch)) && (eqH (x.tag) (y.tag))) && (decide (x.steps = y.steps))) && (decide (x.data = y.data))) = true → a.tmps.getD 98 undef = .agg (rowA 32 (bF (y.salt))) := f98
    have f94 : a.tmps.getD 94 undef = .bool (((((((((((((x.kind == y.kind) && (x.saga == y.saga)) && (x.seq == y.seq)) && (x.step == y.step)) && (x.tr == y.tr)) && (x.back == y.back)) && (x.good == y.good)) && (x.nd == y.nd)) && (x.part == y.part)) && (x.epoch == y.epoch)) && (eqH (x.tag) (y.tag))) && (decide (x.steps = y.steps))) && (decide (x.data = y.data))) := f94
    refine rely_on (rely_gt f94) (fun hE => ?_) (fun hE => hK _ _ (NewT.refl _) (svIf_off hE))
    replace hK := fun v w' (h : NewT wx w') (c : (SV.eq (.bool (eqH (x.salt) (y.salt)))).pred v w') => hK v w' h (fun _ => c)
    exact opr_eql_hash (b := eqH (x.salt) (y.salt)) rfl (f96 hE) (f98 hE) (rfl) (hK _ _ (NewT.refl _) rfl)
  · -- 95: Op.pick t94 t99 (const (Value.bool false))
    intro a wx hT hF _ K hK
    replace hK := fun v w' (h : NewT wx w') c => hK v w' h trivial c
    obtain ⟨f94, f99, _⟩ := hF
    have f94 : a.tmps.getD 94 undef = .bool (((((((((((((x.kind == y.kind) && (x.saga == y.saga)) && (x.seq == y.seq)) && (x.step == y.step)) && (x.tr == y.tr)) && (x.back == y.back)) && (x.good == y.good)) && (x.nd == y.nd)) && (x.part == y.part)) && (x.epoch == y.epoch)) && (eqH (x.tag) (y.tag))) && (decide (x.steps = y.steps))) && (decide (x.data = y.data))) := f94
    have f99 : (((((((((((((x.kind == y.kind) && (x.saga == y.saga)) && (x.seq == y.seq)) && (x.step == y.step)) && (x.tr == y.tr)) && (x.back == y.back)) && (x.good == y.good)) && (x.nd == y.nd)) && (x.part == y.part)) && (x.epoch == y.epoch)) && (eqH (x.tag) (y.tag))) && (decide (x.steps = y.steps))) && (decide (x.data = y.data))) = true → a.tmps.getD 99 undef = .bool (eqH (x.salt) (y.salt)) := f99
    refine rely_wp rfl ?_
    exact opr_pick_b rfl f94 (fun hb => hK _ _ (NewT.refl _) (pk_and1 (f99 hb) hb)) (fun hb => hK _ _ (NewT.refl _) (pk_and0 hb))
  · -- 96: Op.move t100
    intro a wx hT hF _ K hK
    replace hK := fun v w' (h : NewT wx w') c => hK v w' h trivial c
    obtain ⟨f100, _⟩ := hF
    have f100 : a.tmps.getD 100 undef = .bool ((((((((((((((x.kind == y.kind) && (x.saga == y.saga)) && (x.seq == y.seq)) && (x.step == y.step)) && (x.tr == y.tr)) && (x.back == y.back)) && (x.good == y.good)) && (x.nd == y.nd)) && (x.part == y.part)) && (x.epoch == y.epoch)) && (eqH (x.tag) (y.tag))) && (decide (x.steps = y.steps))) && (decide (x.data = y.data))) && (eqH (x.salt) (y.salt))) := f100
    refine rely_wp rfl ?_
    exact opr_move (.inl rfl) (hK _ _ (NewT.refl _) f100)
  · -- 97: Op.fieldAddr 27 t2 14
    intro a wx hT hF _ K hK
    replace hK := fun v w' (h : NewT wx w') c => hK v w' h trivial c
    obtain ⟨f2, f101, _⟩ := hF
    have f2 : a.tmps.getD 2 undef = .pointer (some ⟨w.heap.size, 0, none⟩) := f2
    have f101 : a.tmps.getD 101 undef = .bool ((((((((((((((x.kind == y.kind) && (x.saga == y.saga)) && (x.seq == y.seq)) && (x.step == y.step)) && (x.tr == y.tr)) && (x.back == y.back)) && (x.good == y.good)) && (x.nd == y.nd)) && (x.part == y.part)) && (x.epoch == y.epoch)) && (eqH (x.tag) (y.tag))) && (decide (x.steps = y.steps))) && (decide (x.data = y.data))) && (eqH (x.salt) (y.salt))) := f101
    refine rely_on (rely_gt f101) (fun hE => ?_) (fun hE => hK _ _ (NewT.refl _) (svIf_off hE))
    replace hK := fun v w' (h : NewT wx w') (c : (SV.eq (.pointer (some ⟨w.heap.size, 76, none⟩))).pred v w') => hK v w' h (fun _ => c)
    exact opr_fldR (by decide) rfl f2 (hK _ _ (NewT.refl _) rfl)
  · -- 98: Op.load 4 t102
    intro a wx hT hF _ K hK
    replace hK := fun v w' (h : NewT wx w') c => hK v w' h trivial c
    obtain ⟨f102, f101, _⟩ := hF
    have f102 : ((((((((((((((x.kind == y.kind) && (x.saga == y.saga)) && (x.seq == y.seq)) && (x.step == y.step)) && (x.tr == y.tr)) && (x.back == y.back)) && (x.good == y.good)) && (x.nd == y.nd)) && (x.part == y.part)) && (x.epoch == y.epoch)) && (eqH (x.tag) (y.tag))) && (decide (x.steps = y.steps))) && (decide (x.data = y.data))) && (eqH (x.salt) (y.salt))) = true → a.tmps.getD 102 undef = .pointer (some ⟨w.heap.size, 76, none⟩) := f102
    have f101 : a.tmps.getD 101 undef = .bool ((((((((((((((x.kind == y.kind) && (x.saga == y.saga)) && (x.seq == y.seq)) && (x.step == y.step)) && (x.tr == y.tr)) && (x.back == y.back)) && (x.good == y.good)) && (x.nd == y.nd)) && (x.part == y.part)) && (x.epoch == y.epoch)) && (eqH (x.tag) (y.tag))) && (decide (x.steps = y.steps))) && (decide (x.data = y.data))) && (eqH (x.salt) (y.salt))) := f101
    refine rely_on (rely_gt f101) (fun hE => ?_) (fun hE => hK _ _ (NewT.refl _) (svIf_off hE))
    replace hK := fun v w' (h : NewT wx w') (c : (SV.eq (.bool (x.gone))).pred v w') => hK v w' h (fun _ => c)
    exact opr_ldQ (hT.row R1.out) (by decide) rfl rfl (f102 hE) (hK _ _ (NewT.refl _) rfl)
  · -- 99: Op.fieldAddr 27 t3 14
    intro a wx hT hF _ K hK
    replace hK := fun v w' (h : NewT wx w') c => hK v w' h trivial c
    obtain ⟨f3, f101, _⟩ := hF
    have f3 : a.tmps.getD 3 undef = .pointer (some ⟨w.heap.size + 1, 0, none⟩) := f3
    have f101 : a.tmps.getD 101 undef = .bool ((((((((((((((x.kind == y.kind) && (x.saga == y.saga)) && (x.seq == y.seq)) && (x.step == y.step)) && (x.tr == y.tr)) && (x.back == y.back)) && (x.good == y.good)) && (x.nd == y.nd)) && (x.part == y.part)) && (x.epoch == y.epoch)) && (eqH (x.tag) (y.tag))) && (decide (x.steps = y.steps))) && (decide (x.data = y.data))) && (eqH (x.salt) (y.salt))) := f101
    refine rely_on (rely_gt f101) (fun hE => ?_) (fun hE => hK _ _ (NewT.refl _) (svIf_off hE))
    replace hK := fun v w' (h : NewT wx w') (c : (SV.eq (.pointer (some ⟨w.heap.size + 1, 76, none⟩))).pred v w') => hK v w' h (fun _ => c)
    exact opr_fldR (by decide) rfl f3 (hK _ _ (NewT.refl _) rfl)
  · -- 100: Op.load 4 t104
    intro a wx hT hF _ K hK
    replace hK := fun v w' (h : NewT wx w') c => hK v w' h trivial c
    obtain ⟨f104, f101, _⟩ := hF
    have f104 : ((((((((((((((x.kind == y.kind) && (x.saga == y.saga)) && (x.seq == y.seq)) && (x.step == y.step)) && (x.tr == y.tr)) && (x.back == y.back)) && (x.good == y.good)) && (x.nd == y.nd)) && (x.part == y.part)) && (x.epoch == y.epoch)) && (eqH (x.tag) (y.tag))) && (decide (x.steps = y.steps))) && (decide (x.data = y.data))) && (eqH (x.salt) (y.salt))) = true → a.tmps.getD 104 undef = .pointer (some ⟨w.heap.size + 1, 76, none⟩) := f104
    have f101 : a.tmps.getD 101 undef = .bool ((((((((((((((x.kind == y.kind) && (x.saga == y.saga)) && (x.seq == y.seq)) && (x.step == y.step)) && (x.tr == y.tr)) && (x.back == y.back)) && (x.good == y.good)) && (x.nd == y.nd)) && (x.part == y.part)) && (x.epoch == y.epoch)) && (eqH (x.tag) (y.tag))) && (decide (x.steps = y.steps))) && (decide (x.data = y.data))) && (eqH (x.salt) (y.salt))) := f101
    refine rely_on (rely_gt f101) (fun hE => ?_) (fun hE => hK _ _ (NewT.refl _) (svIf_off hE))
    replace hK := fun v w' (h : NewT wx w') (c : (SV.eq (.bool (y.gone))).pred v w') => hK v w' h (fun _ => c)
    exact opr_ldQ (hT.row R2.out) (by decide) rfl rfl (f104 hE) (hK _ _ (NewT.refl _) rfl)
  · -- 101: Op.binOp BinOp.eql 4 t103 t105 4
    intro a wx hT hF _ K hK
    replace hK := fun v w' (h : NewT wx w') c => hK v w' h trivial c
    obtain ⟨f103, f105, f101, _⟩ := hF
    have f103 : ((((((((((((((x.kind == y.kind) && (x.saga == y.saga)) && (x.seq == y.seq)) && (x.step == y.step)) && (x.tr == y.tr)) && (x.back == y.back)) && (x.good == y.good)) && (x.nd == y.nd)) && (x.part == y.part)) && (x.epoch == y.epoch)) && (eqH (x.tag) (y.tag))) && (decide (x.steps = y.steps))) && (decide (x.data = y.data))) && (eqH (x.salt) (y.salt))) = true → a.tmps.getD 103 undef = .bool (x.gone) := f103
    have f105 : ((((((((((((((x.kind == y.kind) && (x.saga == y.saga)) && (x.seq == y.seq)) && (x.step == y.step)) && (x.tr == y.tr)) && (x.back == y.back)) && (x.good == y.good)) && (x.nd == y.nd)) && (x.part == y.part)) && (x.epoch == y.epoch)) && (eqH (x.tag) (y.tag))) && (decide (x.steps = y.steps))) && (decide (x.data = y.data))) && (eqH (x.salt) (y.salt))) = true → a.tmps.getD 105 undef = .bool (y.gone) := f105
    have f101 : a.tmps.getD 101 undef = .bool ((((((((((((((x.kind == y.kind) && (x.saga == y.saga)) && (x.seq == y.seq)) && (x.step == y.step)) && (x.tr == y.tr)) && (x.back == y.back)) && (x.good == y.good)) && (x.nd == y.nd)) && (x.part == y.part)) && (x.epoch == y.epoch)) && (eqH (x.tag) (y.tag))) && (decide (x.steps = y.steps))) && (decide (x.data = y.data))) && (eqH (x.salt) (y.salt))) := f101
    refine rely_on (rely_gt f101) (fun hE => ?_) (fun hE => hK _ _ (NewT.refl _) (svIf_off hE))
    replace hK := fun v w' (h : NewT wx w') (c : (SV.eq (.bool (x.gone == y.gone))).pred v w') => hK v w' h (fun _ => c)
    exact opr_eqlQ (b := x.gone == y.gone) (rfl) rfl (f103 hE) (f105 hE) (hK _ _ (NewT.refl _) rfl)
  · -- 102: Op.pick t101 t106 (const (Value.bool false))
    intro a wx hT hF _ K hK
    replace hK := fun v w' (h : NewT wx w') c => hK v w' h trivial c
    obtain ⟨f101, f106, _⟩ := hF
    have f101 : a.tmps.getD 101 undef = .bool ((((((((((((((x.kind == y.kind) && (x.saga == y.saga)) && (x.seq == y.seq)) && (x.step == y.step)) && (x.tr == y.tr)) && (x.back == y.back)) && (x.good == y.good)) && (x.nd == y.nd)) && (x.part == y.part)) && (x.epoch == y.epoch)) && (eqH (x.tag) (y.tag))) && (decide (x.steps = y.steps))) && (decide (x.data = y.data))) && (eqH (x.salt) (y.salt))) := f101
    have f106 : ((((((((((((((x.kind == y.kind) && (x.saga == y.saga)) && (x.seq == y.seq)) && (x.step == y.step)) && (x.tr == y.tr)) && (x.back == y.back)) && (x.good == y.good)) && (x.nd == y.nd)) && (x.part == y.part)) && (x.epoch == y.epoch)) && (eqH (x.tag) (y.tag))) && (decide (x.steps = y.steps))) && (decide (x.data = y.data))) && (eqH (x.salt) (y.salt))) = true → a.tmps.getD 106 undef = .bool (x.gone == y.gone) := f106
    refine rely_wp rfl ?_
    exact opr_pick_b rfl f101 (fun hb => hK _ _ (NewT.refl _) (pk_and1 (f106 hb) hb)) (fun hb => hK _ _ (NewT.refl _) (pk_and0 hb))
  · -- 103: Op.move t107
    intro a wx hT hF _ K hK
    replace hK := fun v w' (h : NewT wx w') c => hK v w' h trivial c
    obtain ⟨f107, _⟩ := hF
    have f107 : a.tmps.getD 107 undef = .bool (((((((((((((((x.kind == y.kind) && (x.saga == y.saga)) && (x.seq == y.seq)) && (x.step == y.step)) && (x.tr == y.tr)) && (x.back == y.back)) && (x.good == y.good)) && (x.nd == y.nd)) && (x.part == y.part)) && (x.epoch == y.epoch)) && (eqH (x.tag) (y.tag))) && (decide (x.steps = y.steps))) && (decide (x.data = y.data))) && (eqH (x.salt) (y.salt))) && (x.gone == y.gone)) := f107
    refine rely_wp rfl ?_
    exact opr_move (.inl rfl) (hK _ _ (NewT.refl _) f107)
  · -- 104: Op.fieldAddr 27 t2 15
    intro a wx hT hF _ K hK
    replace hK := fun v w' (h : NewT wx w') c => hK v w' h trivial c
    obtain ⟨f2, f108, _⟩ := hF
    have f2 : a.tmps.getD 2 undef = .pointer (some ⟨w.heap.size, 0, none⟩) := f2
    have f108 : a.tmps.getD 108 undef = .bool (((((((((((((((x.kind == y.kind) && (x.saga == y.saga)) && (x.seq == y.seq)) && (x.step == y.step)) && (x.tr == y.tr)) && (x.back == y.back)) && (x.good == y.good)) && (x.nd == y.nd)) && (x.part == y.part)) && (x.epoch == y.epoch)) && (eqH (x.tag) (y.tag))) && (decide (x.steps = y.steps))) && (decide (x.data = y.data))) && (eqH (x.salt) (y.salt))) && (x.gone == y.gone)) := f108
    refine rely_on (rely_gt f108) (fun hE => ?_) (fun hE => hK _ _ (NewT.refl _) (svIf_off hE))
    replace hK := fun v w' (h : NewT wx w') (c : (SV.eq (.pointer (some ⟨w.heap.size, 77, none⟩))).pred v w') => hK v w' h (fun _ => c)
    exact opr_fldR (by decide) rfl f2 (hK _ _ (NewT.refl _) rfl)
  · -- 105: Op.load 23 t109
    intro a wx hT hF _ K hK
    replace hK := fun v w' (h : NewT wx w') c => hK v w' h trivial c
    obtain ⟨f109, f108, _⟩ := hF
    have f109 : (((((((((((((((x.kind == y.kind) && (x.saga == y.saga)) && (x.seq == y.seq)) && (x.step == y.step)) && (x.tr == y.tr)) && (x.back == y.back)) && (x.good == y.good)) && (x.nd == y.nd)) && (x.part == y.part)) && (x.epoch == y.epoch)) && (eqH (x.tag) (y.tag))) && (decide (x.steps = y.steps))) && (decide (x.data = y.data))) && (eqH (x.salt) (y.salt))) && (x.gone == y.gone)) = true → a.tmps.getD 109 undef = .pointer (some ⟨w.heap.size, 77, none⟩) := f109
    have f108 : a.tmps.getD 108 undef = .bool (((((((((((((((x.kind == y.kind) && (x.saga == y.saga)) && (x.seq == y.seq)) && (x.step == y.step)) && (x.tr == y.tr)) && (x.back == y.back)) && (x.good == y.good)) && (x.nd == y.nd)) && (x.part == y.part)) && (x.epoch == y.epoch)) && (eqH (x.tag) (y.tag))) && (decide (x.steps = y.steps))) && (decide (x.data = y.data))) && (eqH (x.salt) (y.salt))) && (x.gone == y.gone)) := f108
    refine rely_on (rely_gt f108) (fun hE => ?_) (fun hE => hK _ _ (NewT.refl _) (svIf_off hE))
    replace hK := fun v w' (h : NewT wx w') (c : (SV.eq (.agg (rowA 32 (bF (x.com))))).pred v w') => hK v w' h (fun _ => c)
    exact opr_ldH (hT.row R1.out) (by decide) (recF_com x _ _) rfl (f109 hE) (hK _ _ (NewT.refl _) rfl)
  · -- 106: Op.fieldAddr 27 t3 15
    intro a wx hT hF _ K hK
    replace hK := fun v w' (h : NewT wx w') c => hK v w' h trivial c
    obtain ⟨f3, f108, _⟩ := hF
    have f3 : a.tmps.getD 3 undef = .pointer (some ⟨w.heap.size + 1, 0, none⟩) := f3
    have f108 : a.tmps.getD 108 undef = .bool (((((((((((((((x.kind == y.kind) && (x.saga == y.saga)) && (x.seq == y.seq)) && (x.step == y.step)) && (x.tr == y.tr)) && (x.back == y.back)) && (x.good == y.good)) && (x.nd == y.nd)) && (x.part == y.part)) && (x.epoch == y.epoch)) && (eqH (x.tag) (y.tag))) && (decide (x.steps = y.steps))) && (decide (x.data = y.data))) && (eqH (x.salt) (y.salt))) && (x.gone == y.gone)) := f108
    refine rely_on (rely_gt f108) (fun hE => ?_) (fun hE => hK _ _ (NewT.refl _) (svIf_off hE))
    replace hK := fun v w' (h : NewT wx w') (c : (SV.eq (.pointer (some ⟨w.heap.size + 1, 77, none⟩))).pred v w') => hK v w' h (fun _ => c)
    exact opr_fldR (by decide) rfl f3 (hK _ _ (NewT.refl _) rfl)
  · -- 107: Op.load 23 t111
    intro a wx hT hF _ K hK
    replace hK := fun v w' (h : NewT wx w') c => hK v w' h trivial c
    obtain ⟨f111, f108, _⟩ := hF
    have f111 : (((((((((((((((x.kind == y.kind) && (x.saga == y.saga)) && (x.seq == y.seq)) && (x.step == y.step)) && (x.tr == y.tr)) && (x.back == y.back)) && (x.good == y.good)) && (x.nd == y.nd)) && (x.part == y.part)) && (x.epoch == y.epoch)) && (eqH (x.tag) (y.tag))) && (decide (x.steps = y.steps))) && (decide (x.data = y.data))) && (eqH (x.salt) (y.salt))) && (x.gone == y.gone)) = true → a.tmps.getD 111 undef = .pointer (some ⟨w.heap.size + 1, 77, none⟩) := f111
    have f108 : a.tmps.getD 108 undef = .bool (((((((((((((((x.kind == y.kind) && (x.saga == y.saga)) && (x.seq == y.seq)) && (x.step == y.step)) && (x.tr == y.tr)) && (x.back == y.back)) && (x.good == y.good)) && (x.nd == y.nd)) && (x.part == y.part)) && (x.epoch == y.epoch)) && (eqH (x.tag) (y.tag))) && (decide (x.steps = y.steps))) && (decide (x.data = y.data))) && (eqH (x.salt) (y.salt))) && (x.gone == y.gone)) := f108
    refine rely_on (rely_gt f108) (fun hE => ?_) (fun hE => hK _ _ (NewT.refl _) (svIf_off hE))
    replace hK := fun v w' (h : NewT wx w') (c : (SV.eq (.agg (rowA 32 (bF (y.com))))).pred v w') => hK v w' h (fun _ => c)
    exact opr_ldH (hT.row R2.out) (by decide) (recF_com y _ _) rfl (f111 hE) (hK _ _ (NewT.refl _) rfl)
  · -- 108: Op.binOp BinOp.eql 23 t110 t112 23
    intro a wx hT hF _ K hK
    replace hK := fun v w' (h : NewT wx w') c => hK v w' h trivial c
    obtain ⟨f110, f112, f108, _⟩ := hF
    have f110 : (((((((((((((((x.kind == y.kind) && (x.saga == y.saga)) && (x.seq == y.seq)) && (x.step == y.step)) && (x.tr == y.tr)) && (x.back == y.back)) && (x.good == y.good)) && (x.nd == y.nd)) && (x.part == y.part)) && (x.epoch == y.epoch)) && (eqH (x.tag) (y.tag))) && (decide (x.steps = y.steps))) && (decide (x.data = y.data))) && (eqH (x.salt) (y.salt))) && (x.gone == y.gone)) = true → a.tmps.getD 110 undef = .agg (rowA 32 (bF (x.com))) := f110
    have f112 : (((((((((((((((x.kind == y.kind) && (x.saga == y.saga)) && (x.seq == y.seq)) && (x.step == y.step)) && (x.tr == y.tr)) && (x.back == y.back)) && (x.good == y.good)) && (x.nd == y.nd)) && (x.part == y.part)) && (x.epoch == y.epoch)) && (eqH (x.tag) (y.tag))) && (decide (x.steps = y.steps))) && (decide (x.data = y.data))) && (eqH (x.salt) (y.salt))) && (x.gone == y.gone)) = true → a.tmps.getD 112 undef = .agg (rowA 32 (bF (y.com))) := f112
    have f108 : a.tmps.getD 108 undef = .bool (((((((((((((((x.kind == y.kind) && (x.saga == y.saga)) && (x.seq == y.seq)) && (x.step == y.step)) && (x.tr == y.tr)) && (x.back == y.back)) && (x.good == y.good)) && (x.nd == y.nd)) && (x.part == y.part)) && (x.epoch == y.epoch)) && (eqH (x.tag) (y.tag))) && (decide (x.steps = y.steps))) && (decide (x.data = y.data))) && (eqH (x.salt) (y.salt))) && (x.gone == y.gone)) := f108
    refine rely_on (rely_gt f108) (fun hE => ?_) (fun hE => hK _ _ (NewT.refl _) (svIf_off hE))
    replace hK := fun v w' (h : NewT wx w') (c : (SV.eq (.bool (eqH (x.com) (y.com)))).pred v w') => hK v w' h (fun _ => c)
    exact opr_eql_hash (b := eqH (x.com) (y.com)) rfl (f110 hE) (f112 hE) (rfl) (hK _ _ (NewT.refl _) rfl)
  · -- 109: Op.pick t108 t113 (const (Value.bool false))
    intro a wx hT hF _ K hK
    replace hK := fun v w' (h : NewT wx w') c => hK v w' h trivial c
    obtain ⟨f108, f113, _⟩ := hF
    have f108 : a.tmps.getD 108 undef = .bool (((((((((((((((x.kind == y.kind) && (x.saga == y.saga)) && (x.seq == y.seq)) && (x.step == y.step)) && (x.tr == y.tr)) && (x.back == y.back)) && (x.good == y.good)) && (x.nd == y.nd)) && (x.part == y.part)) && (x.epoch == y.epoch)) && (eqH (x.tag) (y.tag))) && (decide (x.steps = y.steps))) && (decide (x.data = y.data))) && (eqH (x.salt) (y.salt))) && (x.gone == y.gone)) := f108
    have f113 : (((((((((((((((x.kind == y.kind) && (x.saga == y.saga)) && (x.seq == y.seq)) && (x.step == y.step)) && (x.tr == y.tr)) && (x.back == y.back)) && (x.good == y.good)) && (x.nd == y.nd)) && (x.part == y.part)) && (x.epoch == y.epoch)) && (eqH (x.tag) (y.tag))) && (decide (x.steps = y.steps))) && (decide (x.data = y.data))) && (eqH (x.salt) (y.salt))) && (x.gone == y.gone)) = true → a.tmps.getD 113 undef = .bool (eqH (x.com) (y.com)) := f113
    refine rely_wp rfl ?_
    exact opr_pick_b rfl f108 (fun hb => hK _ _ (NewT.refl _) (pk_and1 (f113 hb) hb)) (fun hb => hK _ _ (NewT.refl _) (pk_and0 hb))
  · intro wx hT hJ
    clear hJ
    intro u h; obtain rfl := h (by simp); clear h
    intro u h; obtain rfl := h (by simp); clear h
    intro u h; obtain rfl := h (by simp); clear h
    intro u h; obtain rfl := h (by simp); clear h
    intro u h; obtain rfl := h (by simp); clear h
    intro u h; obtain rfl := h (by simp); clear h
    intro _ _
    intro _ _
    intro _ _
    intro _ _
    intro _ _
    intro u h; obtain rfl := h (by simp); clear h
    intro u h; obtain rfl := h (by simp); clear h
    intro _ _
    intro _ _
    intro _ _
    intro _ _
    intro _ _
    intro u h; obtain rfl := h (by simp); clear h
    intro u h; obtain rfl := h (by simp); clear h
    intro _ _
    intro _ _
    intro _ _
    intro _ _
    intro _ _
    intro u h; obtain rfl := h (by simp); clear h
    intro u h; obtain rfl := h (by simp); clear h
    intro _ _
    intro _ _
    intro _ _
    intro _ _
    intro _ _
    intro u h; obtain rfl := h (by simp); clear h
    intro u h; obtain rfl := h (by simp); clear h
    intro _ _
    intro _ _
    intro _ _
    intro _ _
    intro _ _
    intro u h; obtain rfl := h (by simp); clear h
    intro u h; obtain rfl := h (by simp); clear h
    intro _ _
    intro _ _
    intro _ _
    intro _ _
    intro _ _
    intro u h; obtain rfl := h (by simp); clear h
    intro u h; obtain rfl := h (by simp); clear h
    intro _ _
    intro _ _
    intro _ _
    intro _ _
    intro _ _
    intro u h; obtain rfl := h (by simp); clear h
    intro u h; obtain rfl := h (by simp); clear h
    intro _ _
    intro _ _
    intro _ _
    intro _ _
    intro _ _
    intro u h; obtain rfl := h (by simp); clear h
    intro u h; obtain rfl := h (by simp); clear h
    intro _ _
    intro _ _
    intro _ _
    intro _ _
    intro _ _
    intro u h; obtain rfl := h (by simp); clear h
    intro u h; obtain rfl := h (by simp); clear h
    intro _ _
    intro _ _
    intro _ _
    intro _ _
    intro _ _
    intro u h; obtain rfl := h (by simp); clear h
    intro u h; obtain rfl := h (by simp); clear h
    intro _ _
    intro _ _
    intro _ _
    intro _ _
    intro _ _
    intro u h; obtain rfl := h (by simp); clear h
    intro u h; obtain rfl := h (by simp); clear h
    intro _ _
    intro _ _
    intro _ _
    intro _ _
    intro _ _
    intro u h; obtain rfl := h (by simp); clear h
    intro u h; obtain rfl := h (by simp); clear h
    intro _ _
    intro _ _
    intro _ _
    intro _ _
    intro _ _
    intro u h; obtain rfl := h (by simp); clear h
    intro u h; obtain rfl := h (by simp); clear h
    intro _ _
    intro _ _
    intro _ _
    intro _ _
    intro _ _
    intro u h; obtain rfl := h (by simp); clear h
    intro u h; obtain rfl := h (by simp); clear h
    intro _ _
    intro _ _
    intro _ _
    intro _ _
    intro _ _
    intro u h; obtain rfl := h (by simp); clear h
    refine relyEnd_nil rfl ?_
    simp only [Act.put, List.setIfInBounds_toArray, List.set_cons_zero, List.set_cons_succ]
    refine wpList_plain rfl (fun K hK => ?_)
    refine opr_move (.inr rfl) (hK _ _ ?_)
    refine wpList_end rfl ?_
    go_simp
    go_wp2
    go_ret
    exact ⟨_, rfl, NewT.trans _ _ _ HN.out hT, rfl⟩
end Go.Proofs.YthgblcpekhiphaaDoor
