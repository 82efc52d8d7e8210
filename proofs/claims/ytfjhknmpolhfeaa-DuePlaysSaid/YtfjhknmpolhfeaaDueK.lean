/- A Due that was made since a world, beside blocks of one's own; its calls. -/
import Derived.Test.YtfjhknmpolhfeaaDueJ
import Derived.Test.YtfjhknmpolhfeaaHpLaw
namespace Go.Proofs.Ytfjhknmpolhfeaa
open Go.RowKit Go.Sort

/-- A Due at P, of these entries in the order of their laying, made since the world w0; beside it lie one's own blocks K. -/
structure Du (w0 w : World) (P : Nat) (n : Int) (g : List En) (K : List Nat) : Prop where
  due : ∃ q L, Dz w w0.heap.size P n q L ∧ q.Perm g ∧ Hp.Heap q q.length ∧ ∀ k, k ∈ K → k < w.heap.size ∧ k ≠ P ∧ L ≠ some k
  rest : Rest (fun _ => False) w0 w
  laid : Hp.Laid n g

/-- One's own blocks are as they were. -/
def Same (K : List Nat) (w w' : World) : Prop := w.heap.size ≤ w'.heap.size ∧ ∀ k, k ∈ K → w'.heap[k]? = w.heap[k]?

namespace Du
variable {w0 w w' : World} {P : Nat} {n : Int} {g : List En} {K : List Nat}
theorem size (h : Du w0 w P n g K) : w0.heap.size ≤ w.heap.size := h.rest.size
/-- Its own blocks were written, others laid. -/
theorem wrote {own : Nat → Prop} (h : Du w0 w P n g K) (hr : Rest own w w') (ho : ∀ k, own k → k ∈ K) (hb : ∀ k, own k → w0.heap.size ≤ k) : Du w0 w' P n g K := by
  obtain ⟨q, L, hz, hp, hh, hK⟩ := h.due
  refine ⟨⟨q, L, hz.kept hr (fun o => (hK _ (ho _ o)).2.1 rfl) (fun k hk o => (hK _ (ho _ o)).2.2 hk), hp, hh, fun k hk => ⟨Nat.lt_of_lt_of_le (hK k hk).1 hr.size, (hK k hk).2⟩⟩, ?_, h.laid⟩
  exact h.rest.trans (o3 := fun _ => False) hr (fun _ _ => id) (fun i hi o => by have := hb i o; omega)
theorem past (h : Du w0 w P n g K) (hr : Rest (fun _ => False) w w') : Du w0 w' P n g K := h.wrote hr (fun _ => False.elim) (fun _ => False.elim)
/-- One more block of one's own. -/
theorem own (h : Du w0 w P n g K) (hr : Rest (fun _ => False) w w') {b : Nat} (h1 : w.heap.size ≤ b) (h2 : b < w'.heap.size) : Du w0 w' P n g (b :: K) := by
  obtain ⟨q, L, hz, hp, hh, hK⟩ := h.due
  have h' := h.past hr
  refine ⟨⟨q, L, hz.none hr, hp, hh, fun k hk => ?_⟩, h'.rest, h.laid⟩
  rcases List.mem_cons.1 hk with rfl | hk
  · exact ⟨h2, fun e => by have := hz.old; omega, fun e => by have := (hz.row e).2.1; omega⟩
  · exact ⟨Nat.lt_of_lt_of_le (hK k hk).1 hr.size, (hK k hk).2⟩
/-- A block of one's own is given up. -/
theorem drop (h : Du w0 w P n g K) {K' : List Nat} (hs : ∀ k, k ∈ K' → k ∈ K) : Du w0 w P n g K' := by
  obtain ⟨q, L, hz, hp, hh, hK⟩ := h.due
  exact ⟨⟨q, L, hz, hp, hh, fun k hk => hK k (hs k hk)⟩, h.rest, h.laid⟩
/-- A call of it is behind. -/
theorem called {q q' : List En} {g' : List En} {L L' : Option Nat} {n' : Int} (h : Du w0 w P n g K) (hz : Dz w w0.heap.size P n q L) (hK : ∀ k, k ∈ K → k < w.heap.size ∧ k ≠ P ∧ L ≠ some k) (hz' : Dz w' w0.heap.size P n' q' L') (hL : L' = L ∨ ∀ k, L' = some k → w.heap.size ≤ k) (hr : Rest (fun k => k = P ∨ L = some k) w w') (hp : q'.Perm g') (hh : Hp.Heap q' q'.length) (hl : Hp.Laid n' g') : Du w0 w' P n' g' K ∧ Same K w w' := by
  refine ⟨⟨⟨q', L', hz', hp, hh, fun k hk => ?_⟩, ?_, hl⟩, hr.size, fun k hk => hr.block k (hK k hk).1 (fun o => ?_)⟩
  · obtain ⟨k1, k2, k3⟩ := hK k hk
    refine ⟨Nat.lt_of_lt_of_le k1 hr.size, k2, fun e => ?_⟩
    rcases hL with hL | hL
    · exact k3 (hL ▸ e)
    · have := hL k e; omega
  · exact h.rest.trans (o3 := fun _ => False) hr (fun _ _ => id) (fun i hi o => by
      rcases o with o | o
      · have := hz.from_; omega
      · have := (hz.row o).1; omega)
  · rcases o with o | o
    · exact (hK k hk).2.1 o
    · exact (hK k hk).2.2 o
end Du

/-- Made. -/
theorem du_new (w0 w : World) (hr : Rest (fun _ => False) w0 w) : Du w0 (w.alloc (.cells #[.slice none 0 0, .int .i64 0] 27)) w.heap.size 0 [] [] :=
  ⟨⟨[], none, .inl ⟨rfl, hr.size, rfl, heap_alloc_new _ _⟩, List.Perm.refl _, Hp.heap_nil, fun k hk => by simp at hk⟩, hr.trans (o3 := fun _ => False) (Rest.alloc (fun _ => False) _ _) (fun _ _ => id) (fun _ _ => id), Hp.laid_nil⟩

theorem du_len {w0 : World} {P : Nat} {n : Int} {g : List En} {K : List Nat} (w : World) (h : Du w0 w P n g K) : Calls Try.prog 9 #[.pointer (some ⟨P, 0, none⟩)] w fun e w' => e = .returned (.int .i64 (g.length : Nat)) ∧ w = w' := by
  obtain ⟨q, L, hz, hp, -⟩ := h.due
  rw [← hp.length_eq]
  exact dlen_any w hz
/-- The earliest time; Never of none. -/
def Hp.At (g : List En) (v : Int) : Prop := (g.length = 0 ∧ v = 1099511627776) ∨ ∃ i, Hp.Best g i ∧ v = (Hp.e g i).t
theorem du_first {w0 : World} {P : Nat} {n : Int} {g : List En} {K : List Nat} {v : Int} (w : World) (h : Du w0 w P n g K) (hv : Hp.At g v) : Calls Try.prog 10 #[.pointer (some ⟨P, 0, none⟩)] w fun e w' => e = .returned (.int .i64 v) ∧ w = w' := by
  obtain ⟨q, L, hz, hp, hh, -⟩ := h.due
  have hf := dfirst_any w hz
  have : Hp.first q = v := by
    unfold Hp.first
    rcases hv with ⟨h0, rfl⟩ | ⟨i, hb, rfl⟩
    · rw [if_pos (by rw [hp.length_eq]; exact h0)]
    · rw [if_neg (by rw [hp.length_eq]; have := hb.1; omega), hb.root h.laid hp hh]
  rw [this] at hf
  exact hf
theorem du_put {w0 : World} {P : Nat} {n : Int} {g : List En} {K : List Nat} (t c s gn x : Int) (w : World) (h : Du w0 w P n g K) (hm : g.length < 256) (ht : Tk.clamp t ≠ 1099511627776) (hn : n < 4611686018427387904) :
    Calls Try.prog 8 #[.pointer (some ⟨P, 0, none⟩), .agg #[.int .i64 t, .int .i64 c, .int .i64 s, .int .i64 gn, .int .i64 x]] w fun e w' => e = .returned (.bool true) ∧ Du w0 w' P (n + 1) (g ++ [⟨Tk.clamp t, c, s, gn, x, n⟩]) K ∧ Same K w w' := by
  obtain ⟨q, L, hz, hp, hh, hK⟩ := h.due
  refine (dput_yes t c s gn x w hz h.size (by rw [hp.length_eq]; exact hm) hh ht ⟨h.laid.n0, hn⟩).mono ?_
  rintro e w' ⟨rfl, q', L', hz', hp', hh', hL', hr'⟩
  have lo := Tk.clamp_lo t
  have hi := Tk.clamp_hi t
  exact ⟨rfl, h.called hz hK hz' hL' hr' (hp'.trans (hp.append_right _)) hh' (h.laid.put _ rfl lo (by show Tk.clamp t < _; omega))⟩
theorem du_full {w0 : World} {P : Nat} {n : Int} {g : List En} {K : List Nat} (t c s gn x : Int) (w : World) (h : Du w0 w P n g K) (hm : 256 ≤ g.length) (hm2 : g.length ≤ 1000000) :
    Calls Try.prog 8 #[.pointer (some ⟨P, 0, none⟩), .agg #[.int .i64 t, .int .i64 c, .int .i64 s, .int .i64 gn, .int .i64 x]] w fun e w' => e = .returned (.bool false) ∧ Rest (fun _ => False) w w' := by
  obtain ⟨q, L, hz, hp, hh, hK⟩ := h.due
  exact dput_full t c s gn x w hz (by rw [hp.length_eq]; exact hm) (by rw [hp.length_eq]; exact hm2)
theorem du_take {w0 : World} {P : Nat} {n : Int} {g : List En} {K : List Nat} {i : Nat} (now : Int) (w : World) (h : Du w0 w P n g K) (hm : g.length ≤ 1000000) (hb : Hp.Best g i) (hpa : Tk.past now (Hp.e g i).t = true) :
    Calls Try.prog 6 #[.pointer (some ⟨P, 0, none⟩), .int .i64 now] w fun e w' => e = .returned (.tuple #[.agg (Hp.alarm (Hp.e g i)).toArray, .bool true]) ∧ Du w0 w' P n (g.take i ++ g.drop (i + 1)) K ∧ Same K w w' := by
  obtain ⟨q, L, hz, hp, hh, hK⟩ := h.due
  have hr := hb.root h.laid hp hh
  have hi := hb.1
  rw [hr] at hpa ⊢
  refine (dtake_yes now w hz (by rw [hp.length_eq]; exact hm) hh (by rw [hp.length_eq]; omega) hpa).mono ?_
  rintro e w' ⟨rfl, q', hz', hp', hh', hr'⟩
  exact ⟨rfl, h.called hz hK hz' (.inl rfl) hr' (Hp.left hp hp' hi hr) hh' (h.laid.cut i)⟩
theorem du_wait {w0 : World} {P : Nat} {n : Int} {g : List En} {K : List Nat} {v : Int} (now : Int) (w : World) (h : Du w0 w P n g K) (hv : Hp.At g v) (hpa : Tk.past now v = false) :
    Calls Try.prog 6 #[.pointer (some ⟨P, 0, none⟩), .int .i64 now] w fun e w' => e = .returned (.tuple #[.agg #[.int .i64 0, .int .i64 0, .int .i64 0, .int .i64 0, .int .i64 0], .bool false]) ∧ Rest (fun _ => False) w w' := by
  obtain ⟨q, L, hz, hp, hh, hK⟩ := h.due
  have : Hp.first q = v := by
    unfold Hp.first
    rcases hv with ⟨h0, rfl⟩ | ⟨i, hb, rfl⟩
    · rw [if_pos (by rw [hp.length_eq]; exact h0)]
    · rw [if_neg (by rw [hp.length_eq]; have := hb.1; omega), hb.root h.laid hp hh]
  exact dtake_no now w hz (by rw [this]; exact hpa)
end Go.Proofs.Ytfjhknmpolhfeaa
