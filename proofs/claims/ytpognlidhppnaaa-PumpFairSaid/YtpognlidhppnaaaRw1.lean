/- Rows of items of one cell each that are made anew behind a world: 'append(append([]T{}, xs..), x)', whatever T is. -/
import Derived.Test.YtpognlidhppnaaaEnRow
import Derived.Lib.Hide
namespace Go.Proofs.Ytpognlidhppnaaa
open Go.RowKit

/-- Slices of type ts hold items of one cell of type t. -/
structure Item1 (P : Program) (ts t : TypeId) : Prop where
  under : P.underlying ts = some (.slice t)
  info : ∃ (i : TypeInfo) (z : Value), P.info? t = some i ∧ i.zero = some z ∧ i.size = 1 ∧ i.bytes ≤ 16 ∧ z.cells.size = 1
theorem Item1.of {P : Program} {ts t : TypeId} {z : Value} {b : Nat} (h : P.underlying ts = some (.slice t)) (hi : (P.info? t).map (fun i => (i.zero, i.size, i.bytes)) = some (some z, 1, b)) (hb : b ≤ 16) (hz : z.cells.size = 1) : Item1 P ts t := by
  refine ⟨h, ?_⟩
  cases hq : P.info? t with
  | none => simp [hq] at hi
  | some i =>
    simp only [hq, Option.map_some, Option.some.injEq, Prod.mk.injEq] at hi
    exact ⟨i, z, rfl, hi.1, hi.2.1, by omega, hz⟩

/-- Items behind a slice that may be nil. -/
def Nl (w : World) (t : TypeId) (a : Option Addr) (c : Nat) (xs : List Value) : Prop := (a = none ∧ c = 0 ∧ xs = []) ∨ ∃ g off, a = some ⟨g, off, none⟩ ∧ RowK w 0 t 1 g off xs.length c xs
namespace Nl
variable {w w' : World} {t : TypeId} {a : Option Addr} {c : Nat} {xs : List Value}
theorem nil (w : World) (t : TypeId) : Nl w t none 0 [] := .inl ⟨rfl, rfl, rfl⟩
theorem row {B g off : Nat} (h : RowK w B t 1 g off xs.length c xs) : Nl w t (some ⟨g, off, none⟩) c xs := .inr ⟨g, off, rfl, h.lower (Nat.zero_le _)⟩
theorem past {own : Nat → Prop} (h : Nl w t a c xs) (hr : Rest own w w') (ho : ∀ k, (∃ o, a = some ⟨k, o, none⟩) → ¬own k) : Nl w' t a c xs := by
  rcases h with h | ⟨g, off, rfl, h⟩
  · exact .inl h
  · exact .inr ⟨g, off, rfl, h.kept (hr.block g h.lt (ho g ⟨off, rfl⟩))⟩
theorem lt {k o : Nat} (h : Nl w t (some ⟨k, o, none⟩) c xs) : k < w.heap.size := by
  rcases h with ⟨e, -⟩ | ⟨g, off, e, h⟩
  · cases e
  · cases e; exact h.lt
theorem below (h : Nl w t a c xs) (hb : Below w.heap.size w w') : Nl w' t a c xs := h.past (Rest.of_below (own := fun _ => False) hb) (fun _ _ => id)
theorem some_ (h : Nl w t a c xs) (h0 : 0 < xs.length) : ∃ g off, a = some ⟨g, off, none⟩ ∧ RowK w 0 t 1 g off xs.length c xs := by
  rcases h with ⟨-, -, rfl⟩ | h
  · exact absurd h0 (Nat.lt_irrefl _)
  · exact h
end Nl

/-- A row that is made anew behind the world w. -/
structure Rw (w w' : World) (t : TypeId) (g off n cap : Nat) (xs : List Value) : Prop where
  row : RowK w' w.heap.size t 1 g off n cap xs
  rest : Rest (fun _ => False) w w'
namespace Rw
variable {w w1 w2 : World} {t ts : TypeId} {g off n cap : Nat} {xs : List Value} {P : Program}
theorem new (hr : Rest (fun _ => False) w w1) (t : TypeId) : Rw w (w1.alloc (.cells #[] t)) t w1.heap.size 0 0 0 [] :=
  ⟨RowK.nil _ _ _ _ hr.size, hr.trans (o3 := fun _ => False) (Rest.alloc (fun _ => False) _ _) (fun _ _ => id) (fun _ _ => id)⟩
theorem more (r : Rw w w1 t g off n cap xs) (hr : Rest (fun _ => False) w1 w2) : Rw w w2 t g off n cap xs :=
  ⟨r.row.kept (hr.block _ r.row.lt (fun x => x)), r.rest.trans (o3 := fun _ => False) hr (fun _ _ => id) (fun _ _ => id)⟩
/-- Some are put behind it. -/
theorem add (e : Item1 P ts t) (r : Rw w w1 t g off n cap xs) (hn : n ≤ 1000000) {ys : List Value} (hm : ys.length ≤ 1000000) (h1 : ∀ u ∈ ys, u.oneCell' = true) {a : Option Addr} {c : Nat} (hy : Nl w1 t a c ys) (ty : TypeId) :
    ∃ g' off' cap' w', (Builtin.append_ #[ts, ts] ty #[.slice (some ⟨g, off, none⟩) n cap, .slice a ys.length c]).run P w1 = .ok (.slice (some ⟨g', off', none⟩) (n + ys.length) cap') w' ∧ Rw w w' t g' off' (n + ys.length) cap' (xs ++ ys) ∧ ∀ k, k < w1.heap.size → k ≠ g → w'.heap[k]? = w1.heap[k]? := by
  obtain ⟨i, z, hi, hz, hs, hb, hzs⟩ := e.info
  rcases hy with ⟨rfl, rfl, rfl⟩ | ⟨gy, oy, rfl, hy⟩
  · refine ⟨g, off, cap, w1, ?_, by simpa using r, fun _ _ _ => rfl⟩
    have := r.row.room
    simp [Builtin.append_, run_underlying e.under, sizeOf, typeInfo, hi, Builtin.lenOf, Builtin.firstCells, this, storeCells]
  · have hby : (n + ys.length) * i.bytes ≤ 2000000 * 16 := Nat.mul_le_mul (by omega) hb
    obtain ⟨g', off', cap', w', k1, k2, k3, -⟩ := run_append_rowK (P := P) w1 ts ty w.heap.size 1 t i z i.bytes e.under hi hz hs rfl hzs (by decide) g off n cap xs r.row ⟨gy, oy, none⟩ ys.length c ys (by omega) (fun j u hu => by rw [Addr.add_lit]; exact hy.cell hu) h1 (by unfold maxLen; omega) (by omega) r.rest.size
    exact ⟨g', off', cap', w', k1, ⟨k2, r.rest.trans (o3 := fun _ => False) (Rest.grown (own := fun k => k = g) k3 (fun k e => by cases e; rfl)) (fun _ _ => id) (fun i hi e => by have := r.row.from_; omega)⟩,
      fun k hk hn => k3.block k hk (fun e => by cases e; exact hn rfl)⟩
theorem copy (e : Item1 P ts t) (r : Rw w w1 t g off 0 cap []) {ys : List Value} (hm : ys.length ≤ 1000000) (h1 : ∀ u ∈ ys, u.oneCell' = true) {a : Option Addr} {c : Nat} (hy : Nl w1 t a c ys) (ty : TypeId) :
    ∃ g' off' cap' w', (Builtin.append_ #[ts, ts] ty #[.slice (some ⟨g, off, none⟩) 0 cap, .slice a ys.length c]).run P w1 = .ok (.slice (some ⟨g', off', none⟩) ys.length cap') w' ∧ Rw w w' t g' off' ys.length cap' ys ∧ ∀ k, k < w1.heap.size → k ≠ g → w'.heap[k]? = w1.heap[k]? := by
  have := r.add e (Nat.zero_le _) hm h1 hy ty
  rw [Nat.zero_add] at this
  exact this
/-- One is. -/
theorem one (e : Item1 P ts t) (r : Rw w w1 t g off n cap xs) (hn : n ≤ 1000000) {b : Nat} {v : Value} (hv : v.oneCell' = true) (hb : w1.heap[b]? = some (.cells #[v] t (0, 0))) (ty : TypeId) :
    ∃ g' off' cap' w', (Builtin.append_ #[ts, ts] ty #[.slice (some ⟨g, off, none⟩) n cap, .slice (some ⟨b, 0, none⟩) 1 1]).run P w1 = .ok (.slice (some ⟨g', off', none⟩) (n + 1) cap') w' ∧ Rw w w' t g' off' (n + 1) cap' (xs ++ [v]) := by
  have hl : (1 : Nat) ≤ maxLen := by unfold maxLen; omega
  obtain ⟨g', off', cap', w', k1, k2, -⟩ := r.add e hn (ys := [v]) (by simp) (by simpa using hv) (a := some ⟨b, 0, none⟩) (c := 1) (.inr ⟨b, 0, rfl, ⟨rfl, Nat.zero_le _, Nat.le_refl _, hl, #[v], hb, by simp, fun j u hj => by rw [Nat.zero_add]; simpa using hj⟩⟩) ty
  exact ⟨g', off', cap', w', k1, k2⟩
end Rw
end Go.Proofs.Ytpognlidhppnaaa
