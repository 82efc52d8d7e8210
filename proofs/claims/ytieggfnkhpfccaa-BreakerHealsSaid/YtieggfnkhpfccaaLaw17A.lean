/- The law's own small calls: it opens, and a rule near it. -/
import Derived.Test.YtieggfnkhpfccaaBrC
import Derived.Test.YtieggfnkhpfccaaLow
namespace Go.Proofs.Ytieggfnkhpfccaa
open Go.RowKit

theorem low7 (n : Int) : bits .and .i64 n 7 = n % 8 := i64_low n 3 (by omega)
theorem low127 (n : Int) : bits .and .i64 n 127 = n % 128 := i64_low n 7 (by omega)

set_option maxHeartbeats 2000000 in
set_option maxRecDepth 100000 in
theorem awake17_any (w : World) : Calls Try.prog 8 #[] w fun e w' => e = .returned (.bool true) ∧ Below w.heap.size w w' := by
  have hnew := brnew_any ⟨0, 0, 1, 100, 5, 0⟩ (Held.start w) (by decide)
  rw [show BRule.near ⟨0, 0, 1, 100, 5, 0⟩ = ⟨0, 0, 1, 100, 5, 1⟩ from rfl] at hnew
  go_enter Try.func8, Try.ntmps8
  go_wp2_with fail
  refine hnew.mono ?_
  rintro e w1 ⟨B, P, R, rfl, h1⟩
  have H1 := Lib.hid h1
  clear h1 hnew
  go_wp2_with fail
  have hn := brmay_any 0 H1.out
  rw [show (Br.new.at_ 0).went ⟨0, 0, 1, 100, 5, 1⟩ = true by decide, show (Br.new.at_ 0).gone ⟨0, 0, 1, 100, 5, 1⟩ = Br.new by decide] at hn
  refine hn.mono ?_
  rintro e w2 ⟨rfl, h2⟩
  have H2 := Lib.hid h2
  clear h2 H1 hn
  go_wp2_with fail
  have hn := brnote_any 0 false H2.out (by decide)
  rw [show Br.new.note ⟨0, 0, 1, 100, 5, 1⟩ 0 false = ⟨1, 5, 0, 0, 0, []⟩ by decide] at hn
  refine hn.mono ?_
  rintro e w3 ⟨rfl, h3⟩
  have H3 := Lib.hid h3
  clear h3 H2 hn
  go_wp2_with fail
  have hn := brstate_any 0 H3.out
  rw [show Br.at_ ⟨1, 5, 0, 0, 0, []⟩ 0 = ⟨1, 5, 0, 0, 0, []⟩ by decide] at hn
  refine hn.mono ?_
  rintro e w4 ⟨rfl, h4⟩
  have H4 := Lib.hid h4
  clear h4 H3 hn
  go_wp2_with fail
  have hn := brmay_any 4 H4.out
  rw [show (Br.at_ ⟨1, 5, 0, 0, 0, []⟩ 4).went ⟨0, 0, 1, 100, 5, 1⟩ = false by decide, show (Br.at_ ⟨1, 5, 0, 0, 0, []⟩ 4).gone ⟨0, 0, 1, 100, 5, 1⟩ = ⟨1, 5, 0, 0, 0, []⟩ by decide] at hn
  refine hn.mono ?_
  rintro e w5 ⟨rfl, h5⟩
  have H5 := Lib.hid h5
  clear h5 H4 hn
  go_wp2_with fail
  have hn := brstate_any 5 H5.out
  rw [show Br.at_ ⟨1, 5, 0, 0, 0, []⟩ 5 = ⟨2, 5, 0, 0, 0, []⟩ by decide] at hn
  refine hn.mono ?_
  rintro e w6 ⟨rfl, h6⟩
  have H6 := Lib.hid h6
  clear h6 H5 hn
  go_wp2_with fail
  have hn := brmay_any 5 H6.out
  rw [show (Br.at_ ⟨2, 5, 0, 0, 0, []⟩ 5).went ⟨0, 0, 1, 100, 5, 1⟩ = true by decide, show (Br.at_ ⟨2, 5, 0, 0, 0, []⟩ 5).gone ⟨0, 0, 1, 100, 5, 1⟩ = ⟨2, 5, 1, 0, 0, []⟩ by decide] at hn
  refine hn.mono ?_
  rintro e w7 ⟨rfl, h7⟩
  have H7 := Lib.hid h7
  clear h7 H6 hn
  go_wp2_with fail
  have hn := brmay_any 5 H7.out
  rw [show (Br.at_ ⟨2, 5, 1, 0, 0, []⟩ 5).went ⟨0, 0, 1, 100, 5, 1⟩ = false by decide] at hn
  refine hn.mono ?_
  rintro e w8 ⟨rfl, h8⟩
  have HB := Lib.hid h8.below
  clear h8 H7 hn
  go_wp2_with fail
  go_ret
  exact ⟨rfl, HB.out⟩

theorem Try.sizeBreak : (Try.prog.info? 24).map (·.size) = some 6 := by kernel_rfl

set_option maxHeartbeats 1000000 in
/-- A rule near it. -/
theorem brknear_any (n wd le pa co tr : Int) (w : World) : Calls Try.prog 5 #[.agg #[.int .i64 n, .int .i64 wd, .int .i64 le, .int .i64 pa, .int .i64 co, .int .i64 tr]] w fun e w' =>
    e = .returned (.agg #[.int .i64 (n % 4), .int .i64 (wd % 8), .int .i64 (le % 4 + 1), .int .i64 (pa % 128), .int .i64 (co % 16), .int .i64 (tr % 4)]) ∧ Below w.heap.size w w' := by
  have b0 := low3 n
  have b1 := low7 wd
  have b2 := low3 le
  have b3 := low127 pa
  have b4 := low15 co
  have b5 := low3 tr
  have hw : IntKind.i64.wrap (le % 4 + 1) = le % 4 + 1 := by rw [IntKind.wrap_i64]; omega
  generalize n % 4 = n' at b0 ⊢
  generalize wd % 8 = wd' at b1 ⊢
  generalize le % 4 = le' at b2 hw ⊢
  generalize pa % 128 = pa' at b3 ⊢
  generalize co % 16 = co' at b4 ⊢
  generalize tr % 4 = tr' at b5 ⊢
  go_enter Try.func5, Try.ntmps5
  go_wp2_with fail
  have H := Lib.hid (((Held.start w).lay (.cells #[.int .i64 n, .int .i64 wd, .int .i64 le, .int .i64 pa, .int .i64 co, .int .i64 tr] 24)).lay (.cells #[.int .i64 n', .int .i64 wd', .int .i64 (le' + 1), .int .i64 pa', .int .i64 co', .int .i64 tr'] 24))
  have hr : ((w.alloc (.cells #[.int .i64 n, .int .i64 wd, .int .i64 le, .int .i64 pa, .int .i64 co, .int .i64 tr] 24)).alloc (.cells #[.int .i64 n', .int .i64 wd', .int .i64 (le' + 1), .int .i64 pa', .int .i64 co', .int .i64 tr'] 24)).heap[w.heap.size + 1]? = some (.cells #[.int .i64 n', .int .i64 wd', .int .i64 (le' + 1), .int .i64 pa', .int .i64 co', .int .i64 tr'] 24 (0, 0)) := heap_alloc2_new _ _ _
  exact bodyPost_ret (results_cell_row Try.results5 _ _ (w.heap.size + 1) 24 _ (0, 0) _ rfl hr Try.underlying24 rfl Try.sizeBreak) rfl ⟨rfl, H.out.below⟩
end Go.Proofs.Ytieggfnkhpfccaa
