/- DedupPlays: the law's rows beside the cache; its acts. -/
import Derived.Test.YthkcomnmihmccaaDdM
import Derived.Test.YthkcomnmihmccaaLaw23A
namespace Go.Proofs.Ythkcomnmihmccaa
open Go.RowKit Go.Sort

theorem Try.infoEntry : (Try.prog.info? 33).map (fun i => (i.zero.map (·.cells.size), i.size, i.bytes)) = some (some 31, 31, 112) := by kernel_rfl
theorem Try.bigEntry : Big Try.prog 33 31 := Big.of Try.underlying33 rfl Try.infoEntry (by decide)

/-- A row of entries. -/
def RowE (off cap : Nat) (m : List Dd.En) : Obj → Prop := RowO 33 31 off m.length cap (Dd.itmE.flat m)
namespace Dw
variable {w0 w w' : World} {P : Nat} {n : Int} {q : List Dd.Cl} {l : List (Nat × (Obj → Prop))} {b b' : Nat} {o : Obj} {p p' : Obj → Prop} {off cap : Nat} {m : List Dd.En}
/-- The first one is given up: another one stands in its place, laid since. -/
theorem grown (h : Dw w0 w P n q ((b, p) :: l)) (hr : Rest (fun k => k = b) w w') (hb : w.heap.size ≤ b') (hn : w'.heap[b']? = some o) (hp : p' o) : Dw w0 w' P n q ((b', p') :: l) := by
  have ha := List.nodup_cons.1 (show (b :: l.map Prod.fst).Nodup from h.apart)
  obtain ⟨L, hd, h1, h2⟩ := h.dc
  have hb2 := h2 (b, p) List.mem_cons_self
  have ho := (h.own (b, p) List.mem_cons_self).1
  refine ⟨⟨L, hd.kept hr (fun e => hb2.2 e.symm) (fun g hg e => hb2.1 (by rw [hg, e])), h1, fun x hx => ?_⟩, h.from_, h.rest.trans (o3 := fun _ => False) hr (fun _ _ => id) (fun i hi e => by subst e; omega), fun x hx => ?_, ?_⟩
  · rcases List.mem_cons.1 hx with rfl | hx
    · exact ⟨fun e => by have := (hd.row e).1; dsimp only at this; omega, fun e => by have := hd.lt; dsimp only at e; omega⟩
    · exact h2 x (List.mem_cons_of_mem _ hx)
  · rcases List.mem_cons.1 hx with rfl | hx
    · exact ⟨Nat.le_trans h.rest.size hb, o, hn, hp⟩
    · obtain ⟨k0, o, k1, k2⟩ := h.own x (List.mem_cons_of_mem _ hx)
      exact ⟨k0, o, (hr.block _ (heap_lt k1) (fun e => ha.1 (e ▸ List.mem_map.2 ⟨x, hx, rfl⟩))).trans k1, k2⟩
  · refine List.nodup_cons.2 ⟨fun hm => ?_, ha.2⟩
    obtain ⟨x, hx, he⟩ := List.mem_map.1 hm
    obtain ⟨-, o, k1, -⟩ := h.own x (List.mem_cons_of_mem _ hx)
    have := heap_lt k1
    dsimp only at he
    omega
/-- An empty row is laid. -/
theorem none_ (h : Dw w0 w P n q l) : Dw w0 (w.alloc (.cells #[] 33)) P n q ((w.heap.size, RowE 0 0 []) :: l) := by
  obtain ⟨o, h1, h2⟩ := (RowK.nil w 0 31 33 (Nat.zero_le _)).obj
  exact h.made (Rest.alloc _ _ _) (Nat.le_refl _) h1 h2
theorem ent (h : Dw w0 w P n q l) (i : Nat) (e : l[i]? = some (b, RowE off cap m)) : RowK w w0.heap.size 33 31 b off m.length cap (Dd.itmE.flat m) := h.row i e
/-- Some are put behind the first row. -/
theorem add (h : Dw w0 w P n q ((b, RowE off cap m) :: l)) (hm : m.length ≤ 1000) {ys : List Dd.En} {k : Nat} (hk : ys.length = k) (hk2 : k ≤ 1000) {c : Nat} {ad : Addr} (hc : ∀ j u, (Dd.itmE.flat ys)[j]? = some u → w.cell? (ad.add j) = some u) (ty : TypeId) :
    ∃ g off' cap' w', (Builtin.append_ #[25, 25] ty #[.slice (some ⟨b, off, none⟩) m.length cap, .slice (some ad) k c]).run Try.prog w = .ok (.slice (some ⟨g, off', none⟩) (m.length + k) cap') w' ∧ Dw w0 w' P n q ((g, RowE off' cap' (m ++ ys)) :: l) := by
  obtain ⟨i, z, hi, hz, hzs, hs, hby⟩ := Try.bigEntry.info
  have hr := h.ent 0 rfl
  obtain ⟨g, off', cap', w', h1, h2, h3, h4⟩ := Dd.itmE.run_add (P := Try.prog) (ts := 25) (ty := ty) Try.underlying25 hi hz hs rfl hzs (by decide) hby hr (by omega) hk (by omega) (c := c) hc h.rest.size
  refine ⟨g, off', cap', w', h1, ?_⟩
  rw [← hk, ← List.length_append] at h2
  obtain ⟨o, k1, k2⟩ := h2.obj
  have hrest := Rest.grown (own := fun k => k = b) h3 (fun k e => by cases e; rfl)
  rcases h4 with rfl | h4
  · exact h.put hrest k1 k2
  · exact h.grown hrest h4 k1 k2
theorem add2 (h : Dw w0 w P n q ((b, RowE off cap m) :: l)) {nl : Nat} (hl : nl = m.length) (hm : m.length ≤ 1000) {ys : List Dd.En} {k : Nat} (hk : ys.length = k) (hk2 : k ≤ 1000) {c : Nat} {ad : Addr} (hc : ∀ j u, (Dd.itmE.flat ys)[j]? = some u → w.cell? (ad.add j) = some u) (ty : TypeId) :
    ∃ g off' cap' w', (Builtin.append_ #[25, 25] ty #[.slice (some ⟨b, off, none⟩) nl cap, .slice (some ad) k c]).run Try.prog w = .ok (.slice (some ⟨g, off', none⟩) (nl + k) cap') w' ∧ Dw w0 w' P n q ((g, RowE off' cap' (m ++ ys)) :: l) := by
  subst hl
  exact h.add hm hk hk2 hc ty
/-- .. one of its items is written. -/
theorem one (h : Dw w0 w P n q ((b, RowE off cap m) :: l)) {i : Nat} {e : Dd.En} (hi : m[i]? = some e) (e' : Dd.En) (c : Nat) (hc : c < 31) {a : Nat} (ha : a = off + i * 31 + c) {v : Value} (he : e'.cells = e.cells.set c v) : Dw w0 (w.setCell ⟨b, a, none⟩ v) P n q ((b, RowE off cap (m.set i e')) :: l) := by
  subst ha
  have hr := Dd.itmE.put (h.ent 0 rfl) hi c hc he
  obtain ⟨o, k1, k2⟩ := hr.obj
  refine h.put (Rest.setCell (own := fun k => k = b) _ _ _ rfl) k1 ?_
  unfold RowE
  rw [List.length_set]
  exact k2
/-- .. the last ones are left out of the slice. -/
theorem item (h : Dw w0 w P n q l) (i : Nat) (e : l[i]? = some (b, RowE off cap m)) {j : Nat} {x : Dd.En} (hj : m[j]? = some x) :
    w.cell? ⟨b, off + j * 31 + 1, none⟩ = some (.int .i64 x.x.c) ∧ w.cell? ⟨b, off + j * 31 + 5, none⟩ = some (.int .u32 x.x.k) ∧ w.cell? ⟨b, off + j * 31 + 7, none⟩ = some (.bool x.su) ∧ w.cell? ⟨b, off + j * 31 + 27, none⟩ = some (.int .i64 x.x.r) ∧ w.cell? ⟨b, off + j * 31 + 28, none⟩ = some (.bool x.x.d) ∧ w.cell? ⟨b, off + j * 31 + 29, none⟩ = some (.bool x.x.o) ∧ w.cell? ⟨b, off + j * 31 + 30, none⟩ = some (.int .u32 x.x.v) ∧ (∀ t, t < 16 → w.cell? ⟨b, off + j * 31 + 11 + t, none⟩ = some (.bool (x.x.m t))) ∧ ∀ k, w.frozen? ⟨b, k, none⟩ = false := by
  have hr := h.ent i e
  refine ⟨Dd.itmE.cell hr hj 1 (by decide) rfl, Dd.itmE.cell hr hj 5 (by decide) rfl, Dd.itmE.cell hr hj 7 (by decide) rfl, Dd.itmE.cell hr hj 27 (by decide) rfl, Dd.itmE.cell hr hj 28 (by decide) rfl, Dd.itmE.cell hr hj 29 (by decide) rfl, Dd.itmE.cell hr hj 30 (by decide) rfl, fun t ht => ?_, Dd.itmE.free hr⟩
  have := Dd.itmE.cell hr hj (11 + t) (by omega) (x.met t ht)
  rw [← Nat.add_assoc] at this
  exact this
end Dw

namespace Dd
/-- An act: what is done, the frame, how it went. -/
structure Ac where
  W : Int
  K : Int
  c : Int
  S : Int
  T : Int
  G : Int
  k : Int
  R : Int
  su : Bool
  st : Bool
  Q : Int
  V : Int
  ok : Bool
def Ac.cells (a : Ac) : List Value := [.int .i64 a.W, .int .i64 a.K, .int .i64 a.c, .int .i64 a.S, .int .i64 a.T, .int .i64 a.G, .int .u32 a.k, .int .i64 a.R, .bool a.su, .bool a.st, .int .i64 a.Q, .int .u32 a.V, .bool a.ok]
end Dd
/-- The acts as they came in. -/
def Acts23 (w : World) (bk o len : Nat) (X : Nat → Dd.Ac) : Prop := ∀ i, i < len → w.rangeAt bk (o + i * 13) (X i).cells
theorem Acts23.at_ {w w' : World} {bk o len i : Nat} {X : Nat → Dd.Ac} (h : Acts23 w bk o len X) (hr : Rest (fun _ => False) w w') (hi : i < len) :
    w'.cell? ⟨bk, o + i * 13, none⟩ = some (.int .i64 (X i).W) ∧ w'.cell? ⟨bk, o + i * 13 + 12, none⟩ = some (.bool (X i).ok) ∧ w'.cell? ⟨bk, o + i * 13 + 1, none⟩ = some (.int .i64 (X i).K) ∧ w'.cell? ⟨bk, o + i * 13 + 2, none⟩ = some (.int .i64 (X i).c) ∧ w'.cell? ⟨bk, o + i * 13 + 3, none⟩ = some (.int .i64 (X i).S) ∧ w'.cell? ⟨bk, o + i * 13 + 4, none⟩ = some (.int .i64 (X i).T) ∧ w'.cell? ⟨bk, o + i * 13 + 5, none⟩ = some (.int .i64 (X i).G) ∧ w'.cell? ⟨bk, o + i * 13 + 6, none⟩ = some (.int .u32 (X i).k) ∧ w'.cell? ⟨bk, o + i * 13 + 7, none⟩ = some (.int .i64 (X i).R) ∧ w'.cell? ⟨bk, o + i * 13 + 8, none⟩ = some (.bool (X i).su) ∧ w'.cell? ⟨bk, o + i * 13 + 9, none⟩ = some (.bool (X i).st) ∧ w'.cell? ⟨bk, o + i * 13 + 10, none⟩ = some (.int .i64 (X i).Q) ∧ w'.cell? ⟨bk, o + i * 13 + 11, none⟩ = some (.int .u32 (X i).V) := by
  have hc : ∀ (j : Nat) (u : Value), (X i).cells[j]? = some u → w'.cell? ⟨bk, o + i * 13 + j, none⟩ = some u := fun j u hu => by
    have := h i hi j u hu
    rw [World.cell?_of_block (hr.block _ (cell_block this) (fun x => x))]
    exact this
  exact ⟨hc 0 _ rfl, hc 12 _ rfl, hc 1 _ rfl, hc 2 _ rfl, hc 3 _ rfl, hc 4 _ rfl, hc 5 _ rfl, hc 6 _ rfl, hc 7 _ rfl, hc 8 _ rfl, hc 9 _ rfl, hc 10 _ rfl, hc 11 _ rfl⟩
end Go.Proofs.Ythkcomnmihmccaa
