/- A field of bits that lies in a package variable's block: what a row's condition gives of it, and that it is kept by any call. -/
import Derived.Test.YteijikcggflaoaaDoorBox
import Derived.Stop.LaidErr
import Derived.LaidMore
namespace Go.Proofs.YteijikcggflaoaaDoor
open Go.RowKit

/-- A field lies in a variable's block. -/
def Fd (w : World) (g : Nat) (a b : Int) : Prop := w.cell? ⟨g, 0, none⟩ = some (.int .i64 a) ∧ w.cell? ⟨g, 1, none⟩ = some (.int .i64 b)
theorem Fd.lt {w : World} {g : Nat} {a b : Int} (h : Fd w g a b) : g < w.heap.size := cell_block h.1
theorem Fd.kept {w w' : World} {g : Nat} {a b : Int} (h : Fd w g a b) (hb : Below w.heap.size w w') : Fd w' g a b :=
  ⟨(hb.cell h.lt).trans h.1, (hb.cell h.lt).trans h.2⟩

theorem Tryd.sizeField : Tryd.prog.cellsOf 53 = 2 := by kernel_rfl
theorem Tryd.sizeInt : Tryd.prog.cellsOf 3 = 1 := by kernel_rfl

/-- The first variable of the list. -/
theorem laid_field {n : String} {a b : Int} {r : List (String × DataW Unit)} {W : World} {g : Nat}
    (h : laidMet Tryd.prog ((n, .agg [.lit (.int .i64 a), .lit (.int .i64 b)]) :: r) W) (hg : Tryd.prog.globalNamed n = some g) (ht : (Tryd.prog.globals[g]?).map (·.type) = some 53) : Fd W g a b := by
  obtain ⟨ps, ⟨g0, t0, cs0, f0, p0, q0, hg0, ht0, hv0, hd0, _, _⟩, _, _⟩ := h
  obtain rfl := Option.some.inj (hg.symm.trans hg0)
  obtain rfl := Option.some.inj (ht.symm.trans ht0)
  obtain ⟨y0, y1, m, hx, hl, h0, h1⟩ := ChangeShapes.trod_struct2 Tryd.underlying53 hd0
  obtain ⟨k0, e0, e1, _⟩ := DataW.trod_int Tryd.underlying3 h0
  obtain ⟨k1, e2, e3, _⟩ := DataW.trod_int Tryd.underlying3 h1
  subst e1 e3
  simp only [Prod.mk.injEq, DataW.agg.injEq, List.cons.injEq, DataW.lit.injEq, Lit.int.injEq] at hx
  obtain ⟨⟨⟨-, rfl⟩, ⟨-, rfl⟩, -⟩, -⟩ := hx
  obtain ⟨l⟩ := cs0
  have hl2 : l.length = 2 := hl.trans Tryd.sizeField
  match l, hl2 with
  | [c0, c1], _ =>
    have d0 : [c0] = [Value.int .i64 a] := e0
    have d1 : [c1] = [Value.int .i64 b] := e2
    simp only [List.cons.injEq, and_true] at d0 d1
    subst d0 d1
    exact ⟨by simpa using World.var?_cell hg hv0 0, by simpa using World.var?_cell hg hv0 1⟩

end Go.Proofs.YteijikcggflaoaaDoor
