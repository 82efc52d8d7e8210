/- The law on the time that a frame tells: with any frame and any time it returns true. -/
import Derived.Test.YtcpgigmnmlmpjaaDoorFrmL
namespace Go.Proofs.YtcpgigmnmlmpjaaDoor
open Go.RowKit

theorem Lay.drew {w : World} (h : Lay w) : Lay w.drew := ⟨h.kind_, h.client_, h.service_, h.slot_, h.try_, h.sure_, h.stream_, h.gen_, h.call_, h.value_, h.seq_⟩

theorem may_seq {k c s t g r q : Int} (h : Fm.May k c s t g r q) {Q : Int} (h0 : 0 ≤ Q) (h1 : Q ≤ 255) : Fm.May k c s t g r Q := ⟨h.1, h.2.1, h.2.2.1, h.2.2.2.1, h.2.2.2.2.1, h.2.2.2.2.2.1, by omega⟩

set_option maxRecDepth 100000 in
set_option maxHeartbeats 2000000 in
/-- The law, where the time is below all that can be told. -/
theorem times_low (k c s t g a r q v n T Q V : Int) (su st : Bool) (ha : 0 ≤ a ∧ a ≤ 4294967295) (hv : 0 ≤ v ∧ v ≤ 4294967295) (T0 : 0 ≤ T) (T1 : T ≤ 1099511627775) (hQ : Hid (max 0 (min n 1099511627775) / 4294967296 = Q)) (hV : Hid (max 0 (min n 1099511627775) % 4294967296 = V))
    (V0 : 0 ≤ V) (V1 : V ≤ 4294967295) (hT : Hid (Q % 256 * 4294967296 + V = T)) (hC : Hid (Tk.clamp n = T)) (Q0 : 0 ≤ Q) (Q1 : Q ≤ 255) (w : World) (hL : Lay w) :
    Calls Tryd.prog 5 #[.agg #[.int .i64 k, .int .i64 c, .int .i64 s, .int .i64 t, .int .i64 g, .int .u32 a, .int .i64 r, .bool su, .bool st, .int .i64 q, .int .u32 v], .int .i64 n] w fun e w' => e = .returned (.bool true) ∧ Below w.heap.size w w' := by
  go_enter Tryd.func5, Tryd.ntmps5
  go_wp2_with fail
  refine (near_zero _ _ _ _ _ _ _ _ _ _ _ ha hv _).mono ?_
  rintro e w1 ⟨⟨f, hf, rfl⟩, hb1⟩
  have hm := Lib.hid (may_of_ok hf)
  have hB1 := on (below_box _ _) hb1
  have hL1 := Lib.hid (hL.kept hB1)
  clear hb1 ha hv
  go_wp2_with fail
  refine (at_any _ _ _ _ _ _ _ _ _ _ _ _ _).mono ?_
  rintro e w2 ⟨rfl, hb2⟩
  rw [hQ.out, hV.out]
  have hX : w2.heap[w1.heap.size]? = some (.cells #[.int .i64 (f.kind : Int), .int .i64 (f.client : Int), .int .i64 (f.service : Int), .int .i64 (f.slot : Int), .int .i64 (f.gen : Int), .int .u32 (f.call : Int), .int .i64 (f.tr : Int), .bool f.sure, .bool f.stream, .int .i64 (f.seq : Int), .int .u32 (f.value : Int)] 24 (0, 0)) := laid_last _ _ _ hb2
  have hB2 := on hB1 (on (below_box _ _) hb2)
  have hL2 := Lib.hid ((hL1.out.kept (below_box _ _)).kept hb2)
  clear hB1 hb2 hL1
  have x9 : ∀ o o', ((w2.alloc o).alloc o').cell? ⟨w1.heap.size, 9, none⟩ = some (.int .i64 (f.seq : Int)) := fun o o' => cell_of_row _ _ _ _ _ _ (keep1 (keep1 hX o) o')
  have x10 : ∀ o o', ((w2.alloc o).alloc o').cell? ⟨w1.heap.size, 10, none⟩ = some (.int .u32 (f.value : Int)) := fun o o' => cell_of_row _ _ _ _ _ _ (keep1 (keep1 hX o) o')
  have HX := Lib.hid hX
  have HB2 := Lib.hid hB2
  clear hX hB2
  go_wp2_with fail
  refine (tclamp_any _ _).mono ?_
  rintro e w3 ⟨rfl, rfl⟩
  rw [hC.out]
  go_wp2_with fail
  go_region_held3 (fun w' => w'.cell? ⟨w1.heap.size, 9, none⟩ = some (.int .i64 (f.seq : Int)) ∧ w'.cell? ⟨w1.heap.size, 10, none⟩ = some (.int .u32 (f.value : Int)))
    (first | assumption | exact ⟨x9 _ _, x10 _ _⟩)
    (first | fail)
  clear x9 x10
  have hX2 := keep1 (keep1 HX.out (.cells #[.int .i64 (f.kind : Int), .int .i64 (f.client : Int), .int .i64 (f.service : Int), .int .i64 (f.slot : Int), .int .i64 (f.gen : Int), .int .u32 (f.call : Int), .int .i64 (f.tr : Int), .bool f.sure, .bool f.stream, .int .i64 Q, .int .u32 V] 24)) (.cells #[.int .i64 (f.kind : Int), .int .i64 (f.client : Int), .int .i64 (f.service : Int), .int .i64 (f.slot : Int), .int .i64 (f.gen : Int), .int .u32 (f.call : Int), .int .i64 (f.tr : Int), .bool f.sure, .bool f.stream, .int .i64 (f.seq : Int), .int .u32 (f.value : Int)] 24)
  have HL4 := Lib.hid ((hL2.out.kept (below_box w2 (.cells #[.int .i64 (f.kind : Int), .int .i64 (f.client : Int), .int .i64 (f.service : Int), .int .i64 (f.slot : Int), .int .i64 (f.gen : Int), .int .u32 (f.call : Int), .int .i64 (f.tr : Int), .bool f.sure, .bool f.stream, .int .i64 Q, .int .u32 V] 24))).kept (below_box _ (.cells #[.int .i64 (f.kind : Int), .int .i64 (f.client : Int), .int .i64 (f.service : Int), .int .i64 (f.slot : Int), .int .i64 (f.gen : Int), .int .u32 (f.call : Int), .int .i64 (f.tr : Int), .bool f.sure, .bool f.stream, .int .i64 (f.seq : Int), .int .u32 (f.value : Int)] 24)))
  have HB4 := Lib.hid (on (on HB2.out (below_box w2 (.cells #[.int .i64 (f.kind : Int), .int .i64 (f.client : Int), .int .i64 (f.service : Int), .int .i64 (f.slot : Int), .int .i64 (f.gen : Int), .int .u32 (f.call : Int), .int .i64 (f.tr : Int), .bool f.sure, .bool f.stream, .int .i64 Q, .int .u32 V] 24))) (below_box _ (.cells #[.int .i64 (f.kind : Int), .int .i64 (f.client : Int), .int .i64 (f.service : Int), .int .i64 (f.slot : Int), .int .i64 (f.gen : Int), .int .u32 (f.call : Int), .int .i64 (f.tr : Int), .bool f.sure, .bool f.stream, .int .i64 (f.seq : Int), .int .u32 (f.value : Int)] 24)))
  have hY2 : ((w2.alloc (.cells #[.int .i64 (f.kind : Int), .int .i64 (f.client : Int), .int .i64 (f.service : Int), .int .i64 (f.slot : Int), .int .i64 (f.gen : Int), .int .u32 (f.call : Int), .int .i64 (f.tr : Int), .bool f.sure, .bool f.stream, .int .i64 Q, .int .u32 V] 24)).alloc (.cells #[.int .i64 (f.kind : Int), .int .i64 (f.client : Int), .int .i64 (f.service : Int), .int .i64 (f.slot : Int), .int .i64 (f.gen : Int), .int .u32 (f.call : Int), .int .i64 (f.tr : Int), .bool f.sure, .bool f.stream, .int .i64 (f.seq : Int), .int .u32 (f.value : Int)] 24)).heap[w2.heap.size]? = some (.cells #[.int .i64 (f.kind : Int), .int .i64 (f.client : Int), .int .i64 (f.service : Int), .int .i64 (f.slot : Int), .int .i64 (f.gen : Int), .int .u32 (f.call : Int), .int .i64 (f.tr : Int), .bool f.sure, .bool f.stream, .int .i64 Q, .int .u32 V] 24 (0, 0)) := heap_alloc2_old _ _ _
  have hZ2 : ((w2.alloc (.cells #[.int .i64 (f.kind : Int), .int .i64 (f.client : Int), .int .i64 (f.service : Int), .int .i64 (f.slot : Int), .int .i64 (f.gen : Int), .int .u32 (f.call : Int), .int .i64 (f.tr : Int), .bool f.sure, .bool f.stream, .int .i64 Q, .int .u32 V] 24)).alloc (.cells #[.int .i64 (f.kind : Int), .int .i64 (f.client : Int), .int .i64 (f.service : Int), .int .i64 (f.slot : Int), .int .i64 (f.gen : Int), .int .u32 (f.call : Int), .int .i64 (f.tr : Int), .bool f.sure, .bool f.stream, .int .i64 (f.seq : Int), .int .u32 (f.value : Int)] 24)).heap[w2.heap.size + 1]? = some (.cells #[.int .i64 (f.kind : Int), .int .i64 (f.client : Int), .int .i64 (f.service : Int), .int .i64 (f.slot : Int), .int .i64 (f.gen : Int), .int .u32 (f.call : Int), .int .i64 (f.tr : Int), .bool f.sure, .bool f.stream, .int .i64 (f.seq : Int), .int .u32 (f.value : Int)] 24 (0, 0)) := heap_alloc2_new _ _ _
  have HX2 := Lib.hid hX2
  have HY2 := Lib.hid hY2
  have HZ2 := Lib.hid hZ2
  clear hX2 hY2 hZ2 HX hL2 HB2
  go_wp2_with fail
  refine (awake_any _ HL4.out.drew).mono ?_
  rintro e w4 ⟨rfl, hb⟩
  have hX := keep (w := World.drew _) HX2.out hb
  have hY := keep (w := World.drew _) HY2.out hb
  have hZ := keep (w := World.drew _) HZ2.out hb
  have hB := HB4.out.drew.trans (hb.mono HB4.out.drew.size)
  clear hb HX2 HY2 HZ2 HL4 HB4
  obtain ⟨y0, y1, y2, y3, y4, y5, y6, y7, y8, y9, y10⟩ := frame_cells hY
  have HX := Lib.hid hX
  have HY := Lib.hid hY
  have HZ := Lib.hid hZ
  have HB := Lib.hid hB
  clear hX hY hZ hB
  go_wp2_with fail
  refine (when_any _ _ _ _ _ _ _ _ _ _ _ ⟨by omega, by omega⟩ _).mono ?_
  rintro e w5 ⟨rfl, hb⟩
  rw [hT.out]
  clear y0 y1 y2 y3 y4 y5 y6 y7 y8 y9 y10
  have hX := keep HX.out hb
  have hY := keep HY.out hb
  have hZ := keep HZ.out hb
  have hB := on HB.out hb
  clear hb HX HY HZ HB
  obtain ⟨x0, x1, x2, x3, x4, x5, x6, x7, x8, x9, x10⟩ := frame_cells hX
  obtain ⟨y0, y1, y2, y3, y4, y5, y6, y7, y8, y9, y10⟩ := frame_cells hY
  obtain ⟨z0, z1, z2, z3, z4, z5, z6, z7, z8, z9, z10⟩ := frame_cells hZ
  have HX := Lib.hid hX
  have HB := Lib.hid hB
  clear hX hY hZ hB
  go_wp2_with fail
  refine (fmay_yes _ _ _ _ _ _ _ _ _ _ _ (may_seq hm.out Q0 Q1) _).mono ?_
  rintro e w6 ⟨rfl, hb⟩
  clear x0 x1 x2 x3 x4 x5 x6 x7 x8 x9 x10 y0 y1 y2 y3 y4 y5 y6 y7 y8 y9 y10 z0 z1 z2 z3 z4 z5 z6 z7 z8 z9 z10
  have hX := keep HX.out hb
  have hB := on HB.out hb
  clear hb HX HB
  obtain ⟨x0, x1, x2, x3, x4, x5, x6, x7, x8, x9, x10⟩ := frame_cells hX
  have HX := Lib.hid hX
  have HB := Lib.hid hB
  clear hX hB
  go_wp2_with fail
  refine (when_any _ _ _ _ _ _ _ _ _ _ _ ⟨by omega, by have := hf.2.2.2.2.2.2.2.2.2; omega⟩ _).mono ?_
  rintro e w7 ⟨rfl, hb⟩
  clear x0 x1 x2 x3 x4 x5 x6 x7 x8 x9 x10
  have hX := keep HX.out hb
  have hB := on HB.out hb
  clear hb HX HB
  obtain ⟨x0, x1, x2, x3, x4, x5, x6, x7, x8, x9, x10⟩ := frame_cells hX
  have HB := Lib.hid hB
  clear hX hB
  have u0 : 0 ≤ (f.seq : Int) % 256 * 4294967296 + f.value := by omega
  have u1 : (f.seq : Int) % 256 * 4294967296 + f.value ≤ 1099511627776 := by have := hf.2.2.2.2.2.2.2.2.2; omega
  go_wp2_with fail
  refine (when_any _ _ _ _ _ _ _ _ _ _ _ ⟨by omega, by have := hf.2.2.2.2.2.2.2.2.2; omega⟩ _).mono ?_
  rintro e w8 ⟨rfl, hb⟩
  clear x0 x1 x2 x3 x4 x5 x6 x7 x8 x9 x10
  have HC := Lib.hid (on HB.out hb)
  clear hb HB
  go_wp2_with fail
  go_ret
  exact ⟨ret_bool (by simp), HC.out⟩

set_option maxRecDepth 100000 in
set_option maxHeartbeats 2000000 in
/-- .. and where it is that, or beyond. -/
theorem times_high (k c s t g a r q v n Q V : Int) (su st : Bool) (ha : 0 ≤ a ∧ a ≤ 4294967295) (hv : 0 ≤ v ∧ v ≤ 4294967295) (hQ : Hid (max 0 (min n 1099511627775) / 4294967296 = Q)) (hV : Hid (max 0 (min n 1099511627775) % 4294967296 = V))
    (V0 : 0 ≤ V) (V1 : V ≤ 4294967295) (hT : Hid (Q % 256 * 4294967296 + V = 1099511627775)) (hC : Hid (Tk.clamp n = 1099511627776)) (Q0 : 0 ≤ Q) (Q1 : Q ≤ 255) (w : World) (hL : Lay w) :
    Calls Tryd.prog 5 #[.agg #[.int .i64 k, .int .i64 c, .int .i64 s, .int .i64 t, .int .i64 g, .int .u32 a, .int .i64 r, .bool su, .bool st, .int .i64 q, .int .u32 v], .int .i64 n] w fun e w' => e = .returned (.bool true) ∧ Below w.heap.size w w' := by
  go_enter Tryd.func5, Tryd.ntmps5
  go_wp2_with fail
  refine (near_zero _ _ _ _ _ _ _ _ _ _ _ ha hv _).mono ?_
  rintro e w1 ⟨⟨f, hf, rfl⟩, hb1⟩
  have hm := Lib.hid (may_of_ok hf)
  have hB1 := on (below_box _ _) hb1
  have hL1 := Lib.hid (hL.kept hB1)
  clear hb1 ha hv
  go_wp2_with fail
  refine (at_any _ _ _ _ _ _ _ _ _ _ _ _ _).mono ?_
  rintro e w2 ⟨rfl, hb2⟩
  rw [hQ.out, hV.out]
  have hX : w2.heap[w1.heap.size]? = some (.cells #[.int .i64 (f.kind : Int), .int .i64 (f.client : Int), .int .i64 (f.service : Int), .int .i64 (f.slot : Int), .int .i64 (f.gen : Int), .int .u32 (f.call : Int), .int .i64 (f.tr : Int), .bool f.sure, .bool f.stream, .int .i64 (f.seq : Int), .int .u32 (f.value : Int)] 24 (0, 0)) := laid_last _ _ _ hb2
  have hB2 := on hB1 (on (below_box _ _) hb2)
  have hL2 := Lib.hid ((hL1.out.kept (below_box _ _)).kept hb2)
  clear hB1 hb2 hL1
  have x9 : ∀ o o', ((w2.alloc o).alloc o').cell? ⟨w1.heap.size, 9, none⟩ = some (.int .i64 (f.seq : Int)) := fun o o' => cell_of_row _ _ _ _ _ _ (keep1 (keep1 hX o) o')
  have x10 : ∀ o o', ((w2.alloc o).alloc o').cell? ⟨w1.heap.size, 10, none⟩ = some (.int .u32 (f.value : Int)) := fun o o' => cell_of_row _ _ _ _ _ _ (keep1 (keep1 hX o) o')
  have HX := Lib.hid hX
  have HB2 := Lib.hid hB2
  clear hX hB2
  go_wp2_with fail
  refine (tclamp_any _ _).mono ?_
  rintro e w3 ⟨rfl, rfl⟩
  rw [hC.out]
  go_wp2_with fail
  go_region_held3 (fun w' => w'.cell? ⟨w1.heap.size, 9, none⟩ = some (.int .i64 (f.seq : Int)) ∧ w'.cell? ⟨w1.heap.size, 10, none⟩ = some (.int .u32 (f.value : Int)))
    (first | assumption | exact ⟨x9 _ _, x10 _ _⟩)
    (first | fail)
  clear x9 x10
  have hX2 := keep1 (keep1 HX.out (.cells #[.int .i64 (f.kind : Int), .int .i64 (f.client : Int), .int .i64 (f.service : Int), .int .i64 (f.slot : Int), .int .i64 (f.gen : Int), .int .u32 (f.call : Int), .int .i64 (f.tr : Int), .bool f.sure, .bool f.stream, .int .i64 Q, .int .u32 V] 24)) (.cells #[.int .i64 (f.kind : Int), .int .i64 (f.client : Int), .int .i64 (f.service : Int), .int .i64 (f.slot : Int), .int .i64 (f.gen : Int), .int .u32 (f.call : Int), .int .i64 (f.tr : Int), .bool f.sure, .bool f.stream, .int .i64 (f.seq : Int), .int .u32 (f.value : Int)] 24)
  have HL4 := Lib.hid ((hL2.out.kept (below_box w2 (.cells #[.int .i64 (f.kind : Int), .int .i64 (f.client : Int), .int .i64 (f.service : Int), .int .i64 (f.slot : Int), .int .i64 (f.gen : Int), .int .u32 (f.call : Int), .int .i64 (f.tr : Int), .bool f.sure, .bool f.stream, .int .i64 Q, .int .u32 V] 24))).kept (below_box _ (.cells #[.int .i64 (f.kind : Int), .int .i64 (f.client : Int), .int .i64 (f.service : Int), .int .i64 (f.slot : Int), .int .i64 (f.gen : Int), .int .u32 (f.call : Int), .int .i64 (f.tr : Int), .bool f.sure, .bool f.stream, .int .i64 (f.seq : Int), .int .u32 (f.value : Int)] 24)))
  have HB4 := Lib.hid (on (on HB2.out (below_box w2 (.cells #[.int .i64 (f.kind : Int), .int .i64 (f.client : Int), .int .i64 (f.service : Int), .int .i64 (f.slot : Int), .int .i64 (f.gen : Int), .int .u32 (f.call : Int), .int .i64 (f.tr : Int), .bool f.sure, .bool f.stream, .int .i64 Q, .int .u32 V] 24))) (below_box _ (.cells #[.int .i64 (f.kind : Int), .int .i64 (f.client : Int), .int .i64 (f.service : Int), .int .i64 (f.slot : Int), .int .i64 (f.gen : Int), .int .u32 (f.call : Int), .int .i64 (f.tr : Int), .bool f.sure, .bool f.stream, .int .i64 (f.seq : Int), .int .u32 (f.value : Int)] 24)))
  have hY2 : ((w2.alloc (.cells #[.int .i64 (f.kind : Int), .int .i64 (f.client : Int), .int .i64 (f.service : Int), .int .i64 (f.slot : Int), .int .i64 (f.gen : Int), .int .u32 (f.call : Int), .int .i64 (f.tr : Int), .bool f.sure, .bool f.stream, .int .i64 Q, .int .u32 V] 24)).alloc (.cells #[.int .i64 (f.kind : Int), .int .i64 (f.client : Int), .int .i64 (f.service : Int), .int .i64 (f.slot : Int), .int .i64 (f.gen : Int), .int .u32 (f.call : Int), .int .i64 (f.tr : Int), .bool f.sure, .bool f.stream, .int .i64 (f.seq : Int), .int .u32 (f.value : Int)] 24)).heap[w2.heap.size]? = some (.cells #[.int .i64 (f.kind : Int), .int .i64 (f.client : Int), .int .i64 (f.service : Int), .int .i64 (f.slot : Int), .int .i64 (f.gen : Int), .int .u32 (f.call : Int), .int .i64 (f.tr : Int), .bool f.sure, .bool f.stream, .int .i64 Q, .int .u32 V] 24 (0, 0)) := heap_alloc2_old _ _ _
  have hZ2 : ((w2.alloc (.cells #[.int .i64 (f.kind : Int), .int .i64 (f.client : Int), .int .i64 (f.service : Int), .int .i64 (f.slot : Int), .int .i64 (f.gen : Int), .int .u32 (f.call : Int), .int .i64 (f.tr : Int), .bool f.sure, .bool f.stream, .int .i64 Q, .int .u32 V] 24)).alloc (.cells #[.int .i64 (f.kind : Int), .int .i64 (f.client : Int), .int .i64 (f.service : Int), .int .i64 (f.slot : Int), .int .i64 (f.gen : Int), .int .u32 (f.call : Int), .int .i64 (f.tr : Int), .bool f.sure, .bool f.stream, .int .i64 (f.seq : Int), .int .u32 (f.value : Int)] 24)).heap[w2.heap.size + 1]? = some (.cells #[.int .i64 (f.kind : Int), .int .i64 (f.client : Int), .int .i64 (f.service : Int), .int .i64 (f.slot : Int), .int .i64 (f.gen : Int), .int .u32 (f.call : Int), .int .i64 (f.tr : Int), .bool f.sure, .bool f.stream, .int .i64 (f.seq : Int), .int .u32 (f.value : Int)] 24 (0, 0)) := heap_alloc2_new _ _ _
  have HX2 := Lib.hid hX2
  have HY2 := Lib.hid hY2
  have HZ2 := Lib.hid hZ2
  clear hX2 hY2 hZ2 HX hL2 HB2
  go_wp2_with fail
  refine (awake_any _ HL4.out.drew).mono ?_
  rintro e w4 ⟨rfl, hb⟩
  have hX := keep (w := World.drew _) HX2.out hb
  have hY := keep (w := World.drew _) HY2.out hb
  have hZ := keep (w := World.drew _) HZ2.out hb
  have hB := HB4.out.drew.trans (hb.mono HB4.out.drew.size)
  clear hb HX2 HY2 HZ2 HL4 HB4
  obtain ⟨y0, y1, y2, y3, y4, y5, y6, y7, y8, y9, y10⟩ := frame_cells hY
  have HX := Lib.hid hX
  have HY := Lib.hid hY
  have HZ := Lib.hid hZ
  have HB := Lib.hid hB
  clear hX hY hZ hB
  go_wp2_with fail
  refine (when_any _ _ _ _ _ _ _ _ _ _ _ ⟨by omega, by omega⟩ _).mono ?_
  rintro e w5 ⟨rfl, hb⟩
  rw [hT.out]
  clear y0 y1 y2 y3 y4 y5 y6 y7 y8 y9 y10
  have hX := keep HX.out hb
  have hY := keep HY.out hb
  have hZ := keep HZ.out hb
  have hB := on HB.out hb
  clear hb HX HY HZ HB
  obtain ⟨x0, x1, x2, x3, x4, x5, x6, x7, x8, x9, x10⟩ := frame_cells hX
  obtain ⟨y0, y1, y2, y3, y4, y5, y6, y7, y8, y9, y10⟩ := frame_cells hY
  obtain ⟨z0, z1, z2, z3, z4, z5, z6, z7, z8, z9, z10⟩ := frame_cells hZ
  have HX := Lib.hid hX
  have HB := Lib.hid hB
  clear hX hY hZ hB
  go_wp2_with fail
  refine (fmay_yes _ _ _ _ _ _ _ _ _ _ _ (may_seq hm.out Q0 Q1) _).mono ?_
  rintro e w6 ⟨rfl, hb⟩
  clear x0 x1 x2 x3 x4 x5 x6 x7 x8 x9 x10 y0 y1 y2 y3 y4 y5 y6 y7 y8 y9 y10 z0 z1 z2 z3 z4 z5 z6 z7 z8 z9 z10
  have hX := keep HX.out hb
  have hB := on HB.out hb
  clear hb HX HB
  obtain ⟨x0, x1, x2, x3, x4, x5, x6, x7, x8, x9, x10⟩ := frame_cells hX
  have HX := Lib.hid hX
  have HB := Lib.hid hB
  clear hX hB
  go_wp2_with fail
  refine (when_any _ _ _ _ _ _ _ _ _ _ _ ⟨by omega, by have := hf.2.2.2.2.2.2.2.2.2; omega⟩ _).mono ?_
  rintro e w7 ⟨rfl, hb⟩
  clear x0 x1 x2 x3 x4 x5 x6 x7 x8 x9 x10
  have hX := keep HX.out hb
  have hB := on HB.out hb
  clear hb HX HB
  obtain ⟨x0, x1, x2, x3, x4, x5, x6, x7, x8, x9, x10⟩ := frame_cells hX
  have HB := Lib.hid hB
  clear hX hB
  have u0 : 0 ≤ (f.seq : Int) % 256 * 4294967296 + f.value := by omega
  have u1 : (f.seq : Int) % 256 * 4294967296 + f.value ≤ 1099511627776 := by have := hf.2.2.2.2.2.2.2.2.2; omega
  go_wp2_with fail
  refine (when_any _ _ _ _ _ _ _ _ _ _ _ ⟨by omega, by have := hf.2.2.2.2.2.2.2.2.2; omega⟩ _).mono ?_
  rintro e w8 ⟨rfl, hb⟩
  clear x0 x1 x2 x3 x4 x5 x6 x7 x8 x9 x10
  have HC := Lib.hid (on HB.out hb)
  clear hb HB
  go_wp2_with fail
  go_ret
  exact ⟨ret_bool (by simp), HC.out⟩

/-- The law. -/
theorem times_any (k c s t g a r q v n : Int) (su st : Bool) (ha : 0 ≤ a ∧ a ≤ 4294967295) (hv : 0 ≤ v ∧ v ≤ 4294967295) (w : World) (hL : Lay w) :
    Calls Tryd.prog 5 #[.agg #[.int .i64 k, .int .i64 c, .int .i64 s, .int .i64 t, .int .i64 g, .int .u32 a, .int .i64 r, .bool su, .bool st, .int .i64 q, .int .u32 v], .int .i64 n] w fun e w' => e = .returned (.bool true) ∧ Below w.heap.size w w' := by
  by_cases hn : n ≤ 1099511627775
  · have hc : Tk.clamp n = max 0 (min n 1099511627775) := by have := Tk.clamp_eq n; omega
    exact times_low k c s t g a r q v n (max 0 (min n 1099511627775)) (max 0 (min n 1099511627775) / 4294967296) (max 0 (min n 1099511627775) % 4294967296) su st ha hv (by omega) (by omega) (Lib.hid rfl) (Lib.hid rfl) (by omega) (by omega) (Lib.hid (by omega)) (Lib.hid hc) (by omega) (by omega) w hL
  · have hc : Tk.clamp n = 1099511627776 := by have := Tk.clamp_eq n; omega
    exact times_high k c s t g a r q v n (max 0 (min n 1099511627775) / 4294967296) (max 0 (min n 1099511627775) % 4294967296) su st ha hv (Lib.hid rfl) (Lib.hid rfl) (by omega) (by omega) (Lib.hid (by omega)) (Lib.hid hc) (by omega) (by omega) w hL

end Go.Proofs.YtcpgigmnmlmpjaaDoor
