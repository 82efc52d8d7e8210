/- DuePlays: the law's own list beside a Due. -/
import Derived.Test.YtfjhknmpolhfeaaLaw12A
import Derived.Test.YtfjhknmpolhfeaaLow
import Derived.Deep.DeepCutAuto
namespace Go.Proofs.Ytfjhknmpolhfeaa
open Go.RowKit Go.Sort

/-- The cells of alarms, one behind the other. -/
def flatA : List En → List Value
  | [] => []
  | a :: r => .int .i64 a.t :: .int .i64 a.c :: .int .i64 a.s :: .int .i64 a.g :: .int .i64 a.x :: flatA r
theorem flatA_length : ∀ q : List En, (flatA q).length = q.length * 5
  | [] => rfl
  | a :: r => by simp [flatA, flatA_length r]; omega
theorem flatA_append : ∀ p q : List En, flatA (p ++ q) = flatA p ++ flatA q
  | [], _ => rfl
  | b :: r, q => by simp [flatA, flatA_append r q]
theorem flatA_at : ∀ (q : List En) (i c : Nat), i < q.length → c < 5 → (flatA q)[i * 5 + c]? = (Hp.alarm (Hp.e q i))[c]?
  | [], i, c, h, _ => absurd h (Nat.not_lt_zero _)
  | a :: r, 0, c, _, hc => by
    match c, hc with
    | 0, _ => rfl
    | 1, _ => rfl
    | 2, _ => rfl
    | 3, _ => rfl
    | 4, _ => rfl
  | a :: r, i + 1, c, h, hc => by
    have := flatA_at r i c (by simpa using h) hc
    rw [show (i + 1) * 5 + c = i * 5 + c + 5 by omega]
    exact this
theorem flatA_one : ∀ (q : List En), ∀ u ∈ flatA q, u.oneCell' = true
  | [], u, h => by simp [flatA] at h
  | a :: r, u, h => by
    simp only [flatA, List.mem_cons] at h
    rcases h with rfl | rfl | rfl | rfl | rfl | h
    iterate 5 rfl
    exact flatA_one r u h
theorem flatA_take : ∀ (q : List En) (n : Nat), flatA (q.take n) = (flatA q).take (n * 5)
  | [], n => by simp [flatA]
  | a :: r, 0 => by simp [flatA]
  | a :: r, n + 1 => by
    rw [List.take_succ_cons, show (n + 1) * 5 = n * 5 + 1 + 1 + 1 + 1 + 1 by omega]
    simp only [flatA, List.take_succ_cons, flatA_take r n]
theorem flatA_drop : ∀ (q : List En) (n : Nat), flatA (q.drop n) = (flatA q).drop (n * 5)
  | [], n => by simp [flatA]
  | a :: r, 0 => by simp [flatA]
  | a :: r, n + 1 => by
    rw [List.drop_succ_cons, show (n + 1) * 5 = n * 5 + 1 + 1 + 1 + 1 + 1 by omega]
    simp only [flatA, List.drop_succ_cons, flatA_drop r n]

/-- The law's own list, of these alarms, in its block. -/
structure Own (w wr : World) (h : List En) (mb mo mc : Nat) : Prop where
  row : RowK wr w.heap.size 31 5 mb mo h.length mc (flatA h)

/-- A Due since the world w, beside it the law's list and other blocks. -/
structure Pl (w wr : World) (P : Nat) (n : Int) (g h : List En) (mb mo mc : Nat) (K : List Nat) : Prop where
  du : Du w wr P n g (mb :: K)
  own : Own w wr h mb mo mc

namespace Pl
variable {w wr w' : World} {P : Nat} {n : Int} {g h : List En} {mb mo mc : Nat} {K : List Nat}
theorem past (p : Pl w wr P n g h mb mo mc K) (hr : Rest (fun _ => False) wr w') : Pl w w' P n g h mb mo mc K :=
  ⟨p.du.past hr, ⟨p.own.row.kept (hr.block _ p.own.row.lt (fun x => x))⟩⟩
theorem called {n' : Int} {g' : List En} (p : Pl w wr P n g h mb mo mc K) (hd : Du w w' P n' g' (mb :: K)) (hs : Same (mb :: K) wr w') : Pl w w' P n' g' h mb mo mc K :=
  ⟨hd, ⟨p.own.row.kept (hs.2 mb List.mem_cons_self)⟩⟩
theorem drop (p : Pl w wr P n g h mb mo mc K) {K' : List Nat} (hs : ∀ k, k ∈ K' → k ∈ K) : Pl w wr P n g h mb mo mc K' :=
  ⟨p.du.drop (fun k hk => by
    rcases List.mem_cons.1 hk with rfl | hk
    · exact List.mem_cons_self
    · exact List.mem_cons_of_mem _ (hs k hk)), p.own⟩
/-- One more block. -/
theorem more (p : Pl w wr P n g h mb mo mc K) (hr : Rest (fun _ => False) wr w') {b : Nat} (h1 : wr.heap.size ≤ b) (h2 : b < w'.heap.size) : Pl w w' P n g h mb mo mc (b :: K) :=
  ⟨(p.du.own hr h1 h2).drop (fun k hk => by
    rcases List.mem_cons.1 hk with rfl | hk
    · exact List.mem_cons_of_mem _ List.mem_cons_self
    · rcases List.mem_cons.1 hk with rfl | hk
      · exact List.mem_cons_self
      · exact List.mem_cons_of_mem _ (List.mem_cons_of_mem _ hk)), ⟨p.own.row.kept (hr.block _ p.own.row.lt (fun x => x))⟩⟩
/-- A block of one's own was written. -/
theorem wrote {b : Nat} (p : Pl w wr P n g h mb mo mc K) (hr : Rest (fun k => k = b) wr w') (hb : b ∈ K) (hn : b ≠ mb) (hw : w.heap.size ≤ b) : Pl w w' P n g h mb mo mc K :=
  ⟨p.du.wrote hr (fun k e => by subst e; exact List.mem_cons_of_mem _ hb) (fun k e => by subst e; exact hw), ⟨p.own.row.kept (hr.block _ p.own.row.lt (fun e => hn e.symm))⟩⟩
/-- The list is another one, in a block that was laid since. -/
theorem turned (p : Pl w wr P n g h mb mo mc K) (hr : Rest (fun _ => False) wr w') {h' : List En} {mb' mo' mc' : Nat} (hrow : RowK w' wr.heap.size 31 5 mb' mo' h'.length mc' (flatA h')) : Pl w w' P n g h' mb' mo' mc' K :=
  ⟨(p.du.own hr hrow.from_ hrow.lt).drop (fun k hk => by
    rcases List.mem_cons.1 hk with rfl | hk
    · exact List.mem_cons_self
    · exact List.mem_cons_of_mem _ (List.mem_cons_of_mem _ hk)), ⟨hrow.lower p.du.size⟩⟩
/-- An alarm's five cells. -/
theorem al (p : Pl w wr P n g h mb mo mc K) {i : Nat} (hi : i < h.length) :
    wr.cell? ⟨mb, mo + i * 5, none⟩ = some (.int .i64 (Hp.e h i).t) ∧ wr.cell? ⟨mb, mo + i * 5 + 1, none⟩ = some (.int .i64 (Hp.e h i).c) ∧ wr.cell? ⟨mb, mo + i * 5 + 2, none⟩ = some (.int .i64 (Hp.e h i).s) ∧ wr.cell? ⟨mb, mo + i * 5 + 3, none⟩ = some (.int .i64 (Hp.e h i).g) ∧ wr.cell? ⟨mb, mo + i * 5 + 4, none⟩ = some (.int .i64 (Hp.e h i).x) := by
  have hh := fun c (hc : c < 5) (u : Value) (hu : (Hp.alarm (Hp.e h i))[c]? = some u) => p.own.row.cell (j := i * 5 + c) (u := u) (by rw [flatA_at _ _ _ hi hc]; exact hu)
  refine ⟨?_, ?_, ?_, ?_, ?_⟩
  · have := hh 0 (by omega) _ rfl; simpa using this
  · have := hh 1 (by omega) _ rfl; rw [← Nat.add_assoc] at this; exact this
  · have := hh 2 (by omega) _ rfl; rw [← Nat.add_assoc] at this; exact this
  · have := hh 3 (by omega) _ rfl; rw [← Nat.add_assoc] at this; exact this
  · have := hh 4 (by omega) _ rfl; rw [← Nat.add_assoc] at this; exact this
end Pl
end Go.Proofs.Ytfjhknmpolhfeaa
