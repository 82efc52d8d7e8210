/- The law on frames' words: with any frame it returns true. -/
import Derived.Test.YtcpgigmnmlmpjaaDoorFrmL
namespace Go.Proofs.YtcpgigmnmlmpjaaDoor
open Go.RowKit

/-- A frame that may be, of plain numbers. -/
theorem fr_of_may {k c s t g a r q v : Int} {su st : Bool} (h : Fm.May k c s t g r q) (ha : 0 ≤ a ∧ a ≤ 4294967295) (hv : 0 ≤ v ∧ v ≤ 4294967295) :
    ∃ f : Fm.Fr, f.Ok ∧ k = f.kind ∧ c = f.client ∧ s = f.service ∧ t = f.slot ∧ g = f.gen ∧ a = f.call ∧ r = f.tr ∧ su = f.sure ∧ st = f.stream ∧ q = f.seq ∧ v = f.value := by
  obtain ⟨h1, h2, h3, h4, h5, h6, h7⟩ := h
  refine ⟨⟨k.toNat, c.toNat, s.toNat, t.toNat, g.toNat, a.toNat, r.toNat, su, st, q.toNat, v.toNat⟩, by unfold Fm.Fr.Ok; dsimp only; omega, ?_, ?_, ?_, ?_, ?_, ?_, ?_, rfl, rfl, ?_, ?_⟩ <;> (dsimp only; omega)

set_option maxRecDepth 100000 in
set_option maxHeartbeats 2000000 in
/-- The law. -/
theorem puts_any (k c s t g a r q v n : Int) (su st : Bool) (ha : 0 ≤ a ∧ a ≤ 4294967295) (hv : 0 ≤ v ∧ v ≤ 4294967295) (w : World) (hL : Lay w) :
    Calls Tryd.prog 3 #[.agg #[.int .i64 k, .int .i64 c, .int .i64 s, .int .i64 t, .int .i64 g, .int .u32 a, .int .i64 r, .bool su, .bool st, .int .i64 q, .int .u32 v], .int .i64 n] w fun e w' => e = .returned (.bool true) ∧ Below w.heap.size w w' := by
  go_enter Tryd.func3, Tryd.ntmps3
  go_wp2_with fail
  refine (near_any _ _ _ _ _ _ _ _ _ _ _ _ _).mono ?_
  rintro e w1 ⟨⟨k1, c1, s1, t1, g1, r1, q1, rfl⟩, hb1⟩
  have hB1 := on (below_box _ _) hb1
  have HB := Lib.hid hB1
  have HL := Lib.hid ((hL.kept hB1).kept (below_box w1 (.cells #[.int .i64 k1, .int .i64 c1, .int .i64 s1, .int .i64 t1, .int .i64 g1, .int .u32 a, .int .i64 r1, .bool su, .bool st, .int .i64 q1, .int .u32 v] 24)))
  clear hb1 hL hB1
  go_wp2_with fail
  by_cases hm : Fm.May k1 c1 s1 t1 g1 r1 q1
  · obtain ⟨f, hf, rfl, rfl, rfl, rfl, rfl, rfl, rfl, rfl, rfl, rfl, rfl⟩ := fr_of_may (a := a) (v := v) (su := su) (st := st) hm ha hv
    clear hm ha hv
    refine (fput_yes f hf _ HL.out).mono ?_
    rintro e w2 ⟨rfl, hb⟩
    have hX : w2.heap[w1.heap.size]? = some (.cells #[.int .i64 (f.kind : Int), .int .i64 (f.client : Int), .int .i64 (f.service : Int), .int .i64 (f.slot : Int), .int .i64 (f.gen : Int), .int .u32 (f.call : Int), .int .i64 (f.tr : Int), .bool f.sure, .bool f.stream, .int .i64 (f.seq : Int), .int .u32 (f.value : Int)] 24 (0, 0)) := laid_last _ _ _ hb
    have HB2 := Lib.hid (on HB.out (on (below_box _ _) hb))
    have HL2 := Lib.hid (HL.out.kept hb)
    clear hb HB HL
    obtain ⟨x0, x1, x2, x3, x4, x5, x6, x7, x8, x9, x10⟩ := frame_cells1 hX
    have HX := Lib.hid (keep1 hX (.cells #[.int .u64 (Fm.w0 f : Nat), .int .u64 (Fm.w1 f : Nat), .int .u64 (Fm.w2 f : Nat)] 28))
    clear hX
    have HB := Lib.hid (on HB2.out (below_box w2 (.cells #[.int .u64 (Fm.w0 f : Nat), .int .u64 (Fm.w1 f : Nat), .int .u64 (Fm.w2 f : Nat)] 28)))
    have HL := Lib.hid (HL2.out.kept (below_box w2 (.cells #[.int .u64 (Fm.w0 f : Nat), .int .u64 (Fm.w1 f : Nat), .int .u64 (Fm.w2 f : Nat)] 28)))
    clear HB2 HL2
    go_wp2_with fail
    refine (fput2_yes f hf _).mono ?_
    rintro e w3 ⟨rfl, hb⟩
    clear x0 x1 x2 x3 x4 x5 x6 x7 x8 x9 x10
    have hW : w3.heap[w2.heap.size]? = some (.cells #[.int .u64 (Fm.w0 f : Nat), .int .u64 (Fm.w1 f : Nat), .int .u64 (Fm.w2 f : Nat)] 28 (0, 0)) := laid_last _ _ _ hb
    have hX := keep HX.out hb
    have hB := on HB.out hb
    have hL := HL.out.kept hb
    clear hb HB HL HX
    obtain ⟨p0, p1, p2⟩ := word_cells1 hW
    have HX := Lib.hid (keep1 hX (.cells #[.int .u64 (Fm.w0 f : Nat), .int .u64 (Fm.w1 f : Nat), .int .u64 (Fm.w2 f : Nat)] 28))
    have HW := Lib.hid (keep1 hW (.cells #[.int .u64 (Fm.w0 f : Nat), .int .u64 (Fm.w1 f : Nat), .int .u64 (Fm.w2 f : Nat)] 28))
    have HB := Lib.hid (on hB (below_box w3 (.cells #[.int .u64 (Fm.w0 f : Nat), .int .u64 (Fm.w1 f : Nat), .int .u64 (Fm.w2 f : Nat)] 28)))
    have HL := Lib.hid (hL.kept (below_box w3 (.cells #[.int .u64 (Fm.w0 f : Nat), .int .u64 (Fm.w1 f : Nat), .int .u64 (Fm.w2 f : Nat)] 28)))
    clear hX hW hB hL
    go_wp2_with fail
    refine (fget_put f hf _ HL.out).mono ?_
    rintro e w4 ⟨rfl, hb⟩
    clear p0 p1 p2
    have hV : w4.heap[w3.heap.size]? = some (.cells #[.int .u64 (Fm.w0 f : Nat), .int .u64 (Fm.w1 f : Nat), .int .u64 (Fm.w2 f : Nat)] 28 (0, 0)) := laid_last _ _ _ hb
    have HX2 := Lib.hid (keep1 (keep HX.out hb) (.cells #[.int .i64 (f.kind : Int), .int .i64 (f.client : Int), .int .i64 (f.service : Int), .int .i64 (f.slot : Int), .int .i64 (f.gen : Int), .int .u32 (f.call : Int), .int .i64 (f.tr : Int), .bool f.sure, .bool f.stream, .int .i64 (f.seq : Int), .int .u32 (f.value : Int)] 24))
    have HW2 := Lib.hid (keep1 (keep HW.out hb) (.cells #[.int .i64 (f.kind : Int), .int .i64 (f.client : Int), .int .i64 (f.service : Int), .int .i64 (f.slot : Int), .int .i64 (f.gen : Int), .int .u32 (f.call : Int), .int .i64 (f.tr : Int), .bool f.sure, .bool f.stream, .int .i64 (f.seq : Int), .int .u32 (f.value : Int)] 24))
    have HV2 := Lib.hid (keep1 hV (.cells #[.int .i64 (f.kind : Int), .int .i64 (f.client : Int), .int .i64 (f.service : Int), .int .i64 (f.slot : Int), .int .i64 (f.gen : Int), .int .u32 (f.call : Int), .int .i64 (f.tr : Int), .bool f.sure, .bool f.stream, .int .i64 (f.seq : Int), .int .u32 (f.value : Int)] 24))
    have HY2 : Hid ((w4.alloc (.cells #[.int .i64 (f.kind : Int), .int .i64 (f.client : Int), .int .i64 (f.service : Int), .int .i64 (f.slot : Int), .int .i64 (f.gen : Int), .int .u32 (f.call : Int), .int .i64 (f.tr : Int), .bool f.sure, .bool f.stream, .int .i64 (f.seq : Int), .int .u32 (f.value : Int)] 24)).heap[w4.heap.size]? = some (.cells #[.int .i64 (f.kind : Int), .int .i64 (f.client : Int), .int .i64 (f.service : Int), .int .i64 (f.slot : Int), .int .i64 (f.gen : Int), .int .u32 (f.call : Int), .int .i64 (f.tr : Int), .bool f.sure, .bool f.stream, .int .i64 (f.seq : Int), .int .u32 (f.value : Int)] 24 (0, 0))) := Lib.hid (heap_alloc_new _ _)
    have HB2 := Lib.hid (on (on HB.out hb) (below_box w4 (.cells #[.int .i64 (f.kind : Int), .int .i64 (f.client : Int), .int .i64 (f.service : Int), .int .i64 (f.slot : Int), .int .i64 (f.gen : Int), .int .u32 (f.call : Int), .int .i64 (f.tr : Int), .bool f.sure, .bool f.stream, .int .i64 (f.seq : Int), .int .u32 (f.value : Int)] 24)))
    have HL2 := Lib.hid ((HL.out.kept hb).kept (below_box w4 (.cells #[.int .i64 (f.kind : Int), .int .i64 (f.client : Int), .int .i64 (f.service : Int), .int .i64 (f.slot : Int), .int .i64 (f.gen : Int), .int .u32 (f.call : Int), .int .i64 (f.tr : Int), .bool f.sure, .bool f.stream, .int .i64 (f.seq : Int), .int .u32 (f.value : Int)] 24)))
    clear hb hV HX HW HB HL
    go_wp2_with fail
    refine (awake_any _ HL2.out).mono ?_
    rintro e w5 ⟨rfl, hb⟩
    have hX := keep HX2.out hb
    have hW := keep HW2.out hb
    have hV := keep HV2.out hb
    have hY := keep HY2.out hb
    have hB := on HB2.out hb
    clear hb HX2 HW2 HV2 HY2 HB2 HL2
    obtain ⟨p0, p1, p2⟩ := word_cells hW
    obtain ⟨m0, m1, m2⟩ := word_cells hV
    obtain ⟨x0, x1, x2, x3, x4, x5, x6, x7, x8, x9, x10⟩ := frame_cells hX
    have HX := Lib.hid hX
    have HY := Lib.hid hY
    have HB := Lib.hid hB
    have hwe := words_equal
    clear hX hW hV hY hB
    go_wp2_with fail
    refine (fmay_yes _ _ _ _ _ _ _ _ _ _ _ (may_of_ok hf) _).mono ?_
    rintro e w6 ⟨rfl, hb⟩
    clear p0 p1 p2 m0 m1 m2
    clear x0 x1 x2 x3 x4 x5 x6 x7 x8 x9 x10
    have hX := keep HX.out hb
    have hY := keep HY.out hb
    have HB2 := Lib.hid (on HB.out hb)
    clear hb HX HY HB hwe
    obtain ⟨x0, x1, x2, x3, x4, x5, x6, x7, x8, x9, x10⟩ := frame_cells hX
    obtain ⟨y0, y1, y2, y3, y4, y5, y6, y7, y8, y9, y10⟩ := frame_cells hY
    clear hX hY
    go_wp2_with fail
    go_ret
    exact ⟨ret_bool (by simp), HB2.out⟩
  · have HM := Lib.hid hm
    clear hm ha hv
    refine (fput_no _ _ _ _ _ _ _ _ _ _ _ HM.out _).mono ?_
    rintro e w2 ⟨rfl, hb⟩
    have hX : w2.heap[w1.heap.size]? = some (.cells #[.int .i64 k1, .int .i64 c1, .int .i64 s1, .int .i64 t1, .int .i64 g1, .int .u32 a, .int .i64 r1, .bool su, .bool st, .int .i64 q1, .int .u32 v] 24 (0, 0)) := laid_last _ _ _ hb
    have HB2 := Lib.hid (on HB.out (on (below_box _ _) hb))
    have HL2 := Lib.hid (HL.out.kept hb)
    clear hb HB HL
    obtain ⟨x0, x1, x2, x3, x4, x5, x6, x7, x8, x9, x10⟩ := frame_cells1 hX
    have HX := Lib.hid (keep1 hX (.cells #[.int .u64 0, .int .u64 0, .int .u64 0] 28))
    clear hX
    have HB := Lib.hid (on HB2.out (below_box w2 (.cells #[.int .u64 0, .int .u64 0, .int .u64 0] 28)))
    have HL := Lib.hid (HL2.out.kept (below_box w2 (.cells #[.int .u64 0, .int .u64 0, .int .u64 0] 28)))
    clear HB2 HL2
    go_wp2_with fail
    refine (fput2_no _ _ _ _ _ _ _ _ _ _ _ HM.out _).mono ?_
    rintro e w3 ⟨rfl, hb⟩
    clear x0 x1 x2 x3 x4 x5 x6 x7 x8 x9 x10
    have hW : w3.heap[w2.heap.size]? = some (.cells #[.int .u64 0, .int .u64 0, .int .u64 0] 28 (0, 0)) := laid_last _ _ _ hb
    have hX := keep HX.out hb
    have hB := on HB.out hb
    have hL := HL.out.kept hb
    clear hb HB HL HX
    obtain ⟨p0, p1, p2⟩ := word_cells1 hW
    have HX := Lib.hid (keep1 hX (.cells #[.int .u64 0, .int .u64 0, .int .u64 0] 28))
    have HW := Lib.hid (keep1 hW (.cells #[.int .u64 0, .int .u64 0, .int .u64 0] 28))
    have HB := Lib.hid (on hB (below_box w3 (.cells #[.int .u64 0, .int .u64 0, .int .u64 0] 28)))
    have HL := Lib.hid (hL.kept (below_box w3 (.cells #[.int .u64 0, .int .u64 0, .int .u64 0] 28)))
    clear hX hW hB hL
    go_wp2_with fail
    refine (fget_zero _ HL.out).mono ?_
    rintro e w4 ⟨rfl, hb⟩
    clear p0 p1 p2
    have hV : w4.heap[w3.heap.size]? = some (.cells #[.int .u64 0, .int .u64 0, .int .u64 0] 28 (0, 0)) := laid_last _ _ _ hb
    have HX2 := Lib.hid (keep1 (keep HX.out hb) (.cells #[.int .i64 0, .int .i64 0, .int .i64 0, .int .i64 0, .int .i64 0, .int .u32 0, .int .i64 0, .bool false, .bool false, .int .i64 0, .int .u32 0] 24))
    have HW2 := Lib.hid (keep1 (keep HW.out hb) (.cells #[.int .i64 0, .int .i64 0, .int .i64 0, .int .i64 0, .int .i64 0, .int .u32 0, .int .i64 0, .bool false, .bool false, .int .i64 0, .int .u32 0] 24))
    have HV2 := Lib.hid (keep1 hV (.cells #[.int .i64 0, .int .i64 0, .int .i64 0, .int .i64 0, .int .i64 0, .int .u32 0, .int .i64 0, .bool false, .bool false, .int .i64 0, .int .u32 0] 24))
    have HY2 : Hid ((w4.alloc (.cells #[.int .i64 0, .int .i64 0, .int .i64 0, .int .i64 0, .int .i64 0, .int .u32 0, .int .i64 0, .bool false, .bool false, .int .i64 0, .int .u32 0] 24)).heap[w4.heap.size]? = some (.cells #[.int .i64 0, .int .i64 0, .int .i64 0, .int .i64 0, .int .i64 0, .int .u32 0, .int .i64 0, .bool false, .bool false, .int .i64 0, .int .u32 0] 24 (0, 0))) := Lib.hid (heap_alloc_new _ _)
    have HB2 := Lib.hid (on (on HB.out hb) (below_box w4 (.cells #[.int .i64 0, .int .i64 0, .int .i64 0, .int .i64 0, .int .i64 0, .int .u32 0, .int .i64 0, .bool false, .bool false, .int .i64 0, .int .u32 0] 24)))
    have HL2 := Lib.hid ((HL.out.kept hb).kept (below_box w4 (.cells #[.int .i64 0, .int .i64 0, .int .i64 0, .int .i64 0, .int .i64 0, .int .u32 0, .int .i64 0, .bool false, .bool false, .int .i64 0, .int .u32 0] 24)))
    clear hb hV HX HW HB HL
    go_wp2_with fail
    refine (awake_any _ HL2.out).mono ?_
    rintro e w5 ⟨rfl, hb⟩
    have hX := keep HX2.out hb
    have hW := keep HW2.out hb
    have hV := keep HV2.out hb
    have hY := keep HY2.out hb
    have hB := on HB2.out hb
    clear hb HX2 HW2 HV2 HY2 HB2 HL2
    obtain ⟨p0, p1, p2⟩ := word_cells hW
    obtain ⟨m0, m1, m2⟩ := word_cells hV
    obtain ⟨x0, x1, x2, x3, x4, x5, x6, x7, x8, x9, x10⟩ := frame_cells hX
    have HX := Lib.hid hX
    have HY := Lib.hid hY
    have HB := Lib.hid hB
    have hwe := words_equal
    clear hX hW hV hY hB
    go_wp2_with fail
    refine (fmay_no _ _ _ _ _ _ _ _ _ _ _ HM.out _).mono ?_
    rintro e w6 ⟨rfl, hb⟩
    clear p0 p1 p2 m0 m1 m2
    clear x0 x1 x2 x3 x4 x5 x6 x7 x8 x9 x10
    have hX := keep HX.out hb
    have hY := keep HY.out hb
    have HB2 := Lib.hid (on HB.out hb)
    clear hb HX HY HB hwe
    obtain ⟨x0, x1, x2, x3, x4, x5, x6, x7, x8, x9, x10⟩ := frame_cells hX
    obtain ⟨y0, y1, y2, y3, y4, y5, y6, y7, y8, y9, y10⟩ := frame_cells hY
    clear hX hY
    go_wp2_with fail
    go_ret
    exact ⟨ret_bool (by simp), HB2.out⟩

end Go.Proofs.YtcpgigmnmlmpjaaDoor
