/- What the package's eleven fields of a frame's words hold, when a call begins, by the row's condition; and that they hold it behind any call. -/
import Derived.Test.YtcpgigmnmlmpjaaDoorFldA
import Derived.Stop.LaidErr
import Derived.LaidMore
namespace Go.Proofs.YtcpgigmnmlmpjaaDoor
open Go.RowKit

/-- A field lies in a variable's block. -/
def Fd (w : World) (g : Nat) (a b : Int) : Prop := w.cell? ⟨g, 0, none⟩ = some (.int .i64 a) ∧ w.cell? ⟨g, 1, none⟩ = some (.int .i64 b)
theorem Fd.lt {w : World} {g : Nat} {a b : Int} (h : Fd w g a b) : g < w.heap.size := cell_block h.1
theorem Fd.kept {w w' : World} {g : Nat} {a b : Int} (h : Fd w g a b) (hb : Below w.heap.size w w') : Fd w' g a b :=
  ⟨(hb.cell h.lt).trans h.1, (hb.cell h.lt).trans h.2⟩

/-- All eleven. -/
structure Lay (w : World) : Prop where
  kind_ : Fd w 0 0 4
  client_ : Fd w 1 4 4
  service_ : Fd w 2 8 4
  slot_ : Fd w 3 12 8
  try_ : Fd w 4 20 4
  sure_ : Fd w 5 24 1
  stream_ : Fd w 6 25 1
  gen_ : Fd w 7 26 24
  call_ : Fd w 8 0 32
  value_ : Fd w 9 32 32
  seq_ : Fd w 10 0 16

theorem Lay.kept {w w' : World} (h : Lay w) (hb : Below w.heap.size w w') : Lay w' where
  kind_ := h.kind_.kept hb
  client_ := h.client_.kept hb
  service_ := h.service_.kept hb
  slot_ := h.slot_.kept hb
  try_ := h.try_.kept hb
  sure_ := h.sure_.kept hb
  stream_ := h.stream_.kept hb
  gen_ := h.gen_.kept hb
  call_ := h.call_.kept hb
  value_ := h.value_.kept hb
  seq_ := h.seq_.kept hb
/-- There are so many blocks at least. -/
theorem Lay.size {w : World} (h : Lay w) : 11 ≤ w.heap.size := by
  have h_kind := h.kind_.lt
  have h_client := h.client_.lt
  have h_service := h.service_.lt
  have h_slot := h.slot_.lt
  have h_try := h.try_.lt
  have h_sure := h.sure_.lt
  have h_stream := h.stream_.lt
  have h_gen := h.gen_.lt
  have h_call := h.call_.lt
  have h_value := h.value_.lt
  have h_seq := h.seq_.lt
  omega

theorem Tryd.sizeField : Tryd.prog.cellsOf 47 = 2 := by kernel_rfl
theorem Tryd.sizeInt : Tryd.prog.cellsOf 3 = 1 := by kernel_rfl

/-- The first variable of the list. -/
theorem laid_field {n : String} {a b : Int} {r : List (String × DataW Unit)} {W : World} {g : Nat}
    (h : laidMet Tryd.prog ((n, .agg [.lit (.int .i64 a), .lit (.int .i64 b)]) :: r) W) (hg : Tryd.prog.globalNamed n = some g) (ht : (Tryd.prog.globals[g]?).map (·.type) = some 47) : Fd W g a b := by
  obtain ⟨ps, ⟨g0, t0, cs0, f0, p0, q0, hg0, ht0, hv0, hd0, _, _⟩, _, _⟩ := h
  obtain rfl := Option.some.inj (hg.symm.trans hg0)
  obtain rfl := Option.some.inj (ht.symm.trans ht0)
  obtain ⟨y0, y1, m, hx, hl, h0, h1⟩ := ChangeShapes.trod_struct2 Tryd.underlying47 hd0
  obtain ⟨k0, e0, e1, _⟩ := DataW.trod_int Tryd.underlying3 h0
  obtain ⟨k1, e2, e3, _⟩ := DataW.trod_int Tryd.underlying3 h1
  subst e1 e3
  simp only [Prod.mk.injEq, DataW.agg.injEq, List.cons.injEq, DataW.lit.injEq, Lit.int.injEq] at hx
  obtain ⟨⟨⟨-, rfl⟩, ⟨-, rfl⟩, -⟩, -⟩ := hx
  obtain ⟨l⟩ := cs0
  have hl2 : l.length = 2 := hl.trans Tryd.sizeField
  match l, hl2 with
  | [c0, c1], _ =>
    have d0 : [c0] = [Value.int .i64 a] := e0
    have d1 : [c1] = [Value.int .i64 b] := e2
    simp only [List.cons.injEq, and_true] at d0 d1
    subst d0 d1
    exact ⟨by simpa using World.var?_cell hg hv0 0, by simpa using World.var?_cell hg hv0 1⟩

/-- What the row's condition gives. -/
theorem lay_of_met {W : World} (h : laidMetH Tryd.prog Rows.framePutsRow.laid W) : Lay W := by
  rw [MakeChecks.laidMetH_plain _ _ _ (by kernel_rfl)] at h
  have k0 := laid_field h (g := 0) (by kernel_rfl) (by kernel_rfl)
  have t1 := laidMet.tail h
  have k1 := laid_field t1 (g := 1) (by kernel_rfl) (by kernel_rfl)
  have t2 := laidMet.tail t1
  have k2 := laid_field t2 (g := 2) (by kernel_rfl) (by kernel_rfl)
  have t3 := laidMet.tail t2
  have k3 := laid_field t3 (g := 3) (by kernel_rfl) (by kernel_rfl)
  have t4 := laidMet.tail t3
  have k4 := laid_field t4 (g := 4) (by kernel_rfl) (by kernel_rfl)
  have t5 := laidMet.tail t4
  have k5 := laid_field t5 (g := 5) (by kernel_rfl) (by kernel_rfl)
  have t6 := laidMet.tail t5
  have k6 := laid_field t6 (g := 6) (by kernel_rfl) (by kernel_rfl)
  have t7 := laidMet.tail t6
  have k7 := laid_field t7 (g := 7) (by kernel_rfl) (by kernel_rfl)
  have t8 := laidMet.tail t7
  have k8 := laid_field t8 (g := 8) (by kernel_rfl) (by kernel_rfl)
  have t9 := laidMet.tail t8
  have k9 := laid_field t9 (g := 9) (by kernel_rfl) (by kernel_rfl)
  have t10 := laidMet.tail t9
  have k10 := laid_field t10 (g := 10) (by kernel_rfl) (by kernel_rfl)
  exact ⟨k0, k1, k2, k3, k4, k5, k6, k7, k8, k9, k10⟩

end Go.Proofs.YtcpgigmnmlmpjaaDoor
