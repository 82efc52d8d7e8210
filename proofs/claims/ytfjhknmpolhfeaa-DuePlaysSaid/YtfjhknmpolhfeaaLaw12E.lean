/- What the law does with its own list: it is copied, one is put behind it, one is left out of it. -/
import Derived.Test.YtfjhknmpolhfeaaLaw12C
namespace Go.Proofs.Ytfjhknmpolhfeaa
open Go.RowKit Go.Sort

theorem Try.infoAl : (Try.prog.info? 31).map (fun i => (i.zero, i.size, i.bytes)) = some (some (.agg #[.int .i64 0, .int .i64 0, .int .i64 0, .int .i64 0, .int .i64 0]), 5, 40) := by kernel_rfl

theorem RowK.at_ {w : World} {B k g off n cap : Nat} {t : TypeId} {xs : List Value} (h : RowK w B t k g off n cap xs) : ∀ j u, xs[j]? = some u → w.cell? ((⟨g, off, none⟩ : Addr).add j) = some u := fun j u hu => by rw [Addr.add_lit]; exact h.cell hu

/-- Some alarms are put behind a row. -/
theorem added {w : World} {B g off n cap m c : Nat} {h h' : List En} (hr : RowK w B 31 5 g off n cap (flatA h)) (hn : n ≤ 1000) (hl : h'.length = m) (hm : m ≤ 1000) {ad : Addr} (hc : ∀ j u, (flatA h')[j]? = some u → w.cell? (ad.add j) = some u) (hB : B ≤ w.heap.size) (ty : TypeId) :
    ∃ g' off' cap' w', (Builtin.append_ #[28, 28] ty #[.slice (some ⟨g, off, none⟩) n cap, .slice (some ad) m c]).run Try.prog w = .ok (.slice (some ⟨g', off', none⟩) (n + m) cap') w' ∧ RowK w' B 31 5 g' off' (n + m) cap' (flatA (h ++ h')) ∧ w.grownBy w' (some g) ∧ (g' = g ∨ w.heap.size ≤ g') := by
  obtain ⟨i0, hinf, hz0, hz1, hz2⟩ := info_parts Try.infoAl
  obtain ⟨g', off', cap', w', h1, h2, h3, h4⟩ := run_append_rowK (P := Try.prog) w 28 ty B 5 31 i0 _ 40 Try.underlying28 hinf hz0 hz1 hz2 rfl (by decide) g off n cap (flatA h) hr ad m c (flatA h') (by rw [flatA_length, hl]) hc (flatA_one h') (by unfold maxLen; omega) (by omega) hB
  exact ⟨g', off', cap', w', h1, by rw [flatA_append]; exact h2, h3, h4⟩

/-- What stands behind two of them: all else is as it was since the world w. -/
structure Row2 (w w' : World) (B g off n cap : Nat) (h : List En) : Prop where
  row : RowK w' B 31 5 g off n cap (flatA h)
  rest : Rest (fun _ => False) w w'
  from_ : w.heap.size ≤ B

theorem Row2.more {w w1 w2 : World} {B g off n cap : Nat} {h : List En} (r : Row2 w w1 B g off n cap h) (hr : Rest (fun _ => False) w1 w2) : Row2 w w2 B g off n cap h :=
  ⟨r.row.kept (hr.block _ r.row.lt (fun x => x)), r.rest.trans (o3 := fun _ => False) hr (fun _ _ => id) (fun _ _ => id), r.from_⟩
theorem Row2.add {w w1 : World} {B g off n cap m c : Nat} {h h' : List En} (r : Row2 w w1 B g off n cap h) (hn : n ≤ 1000) (hl : h'.length = m) (hm : m ≤ 1000) {ad : Addr} (hc : ∀ j u, (flatA h')[j]? = some u → w1.cell? (ad.add j) = some u) (hB : B ≤ w1.heap.size) (ty : TypeId) :
    ∃ g' off' cap' w', (Builtin.append_ #[28, 28] ty #[.slice (some ⟨g, off, none⟩) n cap, .slice (some ad) m c]).run Try.prog w1 = .ok (.slice (some ⟨g', off', none⟩) (n + m) cap') w' ∧ Row2 w w' B g' off' (n + m) cap' (h ++ h') ∧ ∀ k, k < w1.heap.size → k ≠ g → w'.heap[k]? = w1.heap[k]? := by
  obtain ⟨g', off', cap', w', h1, h2, h3, h4⟩ := added r.row hn hl hm hc hB ty
  exact ⟨g', off', cap', w', h1, ⟨h2, r.rest.trans (o3 := fun _ => False) (Rest.grown (own := fun k => k = g) h3 (fun k e => by cases e; rfl)) (fun _ _ => id) (fun i hi e => by have := r.row.from_; have := r.from_; omega), r.from_⟩, fun k hk hn => h3.block k hk (fun e => by cases e; exact hn rfl)⟩
theorem Row2.new {w w1 : World} (hr : Rest (fun _ => False) w w1) : Row2 w (w1.alloc (.cells #[] 31)) w.heap.size w1.heap.size 0 0 0 [] :=
  ⟨RowK.nil _ _ _ _ hr.size, hr.trans (o3 := fun _ => False) (Rest.alloc (fun _ => False) _ _) (fun _ _ => id) (fun _ _ => id), Nat.le_refl _⟩

/-- One alarm in a block of its own. -/
theorem one_alarm {w : World} {b : Nat} {t : TypeId} (x : En) (h : w.heap[b]? = some (.cells (Hp.alarm x).toArray t (0, 0))) : ∀ j u, (flatA [x])[j]? = some u → w.cell? ((⟨b, 0, none⟩ : Addr).add j) = some u := fun j u hu => by
  rw [Addr.add_lit, Nat.zero_add, cell_of_row _ _ _ _ _ _ h]
  have : (flatA [x]) = Hp.alarm x := rfl
  rw [this] at hu
  simpa using hu
/-- .. of a list's cells. -/
theorem some_alarms {w : World} {B g off n cap : Nat} {t : TypeId} {h : List En} (r : RowK w B t 5 g off n cap (flatA h)) : ∀ j u, (flatA h)[j]? = some u → w.cell? ((⟨g, off, none⟩ : Addr).add j) = some u := r.at_
theorem first_alarms {w : World} {B g off n cap : Nat} {t : TypeId} {h : List En} (r : RowK w B t 5 g off n cap (flatA h)) (i : Nat) : ∀ j u, (flatA (h.take i))[j]? = some u → w.cell? ((⟨g, off, none⟩ : Addr).add j) = some u := fun j u hu => by
  rw [flatA_take, List.getElem?_take] at hu
  split at hu
  · exact r.at_ j u hu
  · cases hu
theorem last_alarms {w : World} {B g off n cap : Nat} {t : TypeId} {h : List En} (r : RowK w B t 5 g off n cap (flatA h)) (i : Nat) : ∀ j u, (flatA (h.drop i))[j]? = some u → w.cell? ((⟨g, off + i * 5, none⟩ : Addr).add j) = some u := fun j u hu => by
  rw [flatA_drop, List.getElem?_drop] at hu
  have := r.at_ _ u hu
  rw [Addr.add_lit] at this ⊢
  rw [Nat.add_assoc]
  exact this
theorem Row2.add0 {w w1 : World} {B g off cap m c : Nat} {h' : List En} (r : Row2 w w1 B g off 0 cap []) (hl : h'.length = m) (hm : m ≤ 1000) {ad : Addr} (hc : ∀ j u, (flatA h')[j]? = some u → w1.cell? (ad.add j) = some u) (hB : B ≤ w1.heap.size) (ty : TypeId) :
    ∃ g' off' cap' w', (Builtin.append_ #[28, 28] ty #[.slice (some ⟨g, off, none⟩) 0 cap, .slice (some ad) m c]).run Try.prog w1 = .ok (.slice (some ⟨g', off', none⟩) m cap') w' ∧ Row2 w w' B g' off' m cap' h' ∧ ∀ k, k < w1.heap.size → k ≠ g → w'.heap[k]? = w1.heap[k]? := by
  have := r.add (c := c) (Nat.zero_le _) hl hm hc hB ty
  rw [Nat.zero_add] at this
  exact this
/-- A box is as it was laid. -/
theorem box_at {w w' : World} {b : Nat} {t : TypeId} {c0 c1 c2 c3 c4 : Value} (h : w.heap[b]? = some (.cells #[c0, c1, c2, c3, c4] t (0, 0))) (hr : Rest (fun _ => False) w w') :
    w'.cell? ⟨b, 0, none⟩ = some c0 ∧ w'.cell? ⟨b, 1, none⟩ = some c1 ∧ w'.cell? ⟨b, 2, none⟩ = some c2 ∧ w'.cell? ⟨b, 3, none⟩ = some c3 ∧ w'.cell? ⟨b, 4, none⟩ = some c4 :=
  five_zero ((hr.block b (lt_of_block h) (fun x => x)).trans h)
/-- A box whose first cell is written. -/
theorem box_set {w : World} {b : Nat} {t : TypeId} {c0 c1 c2 c3 c4 : Value} (h : w.heap[b]? = some (.cells #[c0, c1, c2, c3, c4] t (0, 0))) (v : Value) : (w.setCell ⟨b, 0, none⟩ v).heap[b]? = some (.cells #[v, c1, c2, c3, c4] t (0, 0)) := heap_setCell_same _ _ _ _ _ _ h
theorem Row2.done {w w0 w1 w2 : World} {P : Nat} {n : Int} {g h h' : List En} {mb mo mc g' off' cap' m : Nat} {K : List Nat} (p : Pl w w1 P n g h mb mo mc K) (hr : Rest (fun _ => False) w1 w0) (r : Row2 w0 w2 w0.heap.size g' off' m cap' h') (hm : h'.length = m) : Pl w w2 P n g h' g' off' cap' K := by
  subst hm
  exact (p.past hr).turned r.rest r.row
end Go.Proofs.Ytfjhknmpolhfeaa
