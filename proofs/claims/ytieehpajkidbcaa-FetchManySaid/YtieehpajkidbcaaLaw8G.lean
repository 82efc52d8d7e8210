/- The law on many who send and one who fetches, whatever the order of their steps. -/
import Derived.Test.YtieehpajkidbcaaLaw8E
import Derived.Test.YtieehpajkidbcaaLaw8A
import Derived.Test.YtieehpajkidbcaaSkip
import Derived.RegionTactic
import Derived.BigRegion
import Derived.BigQuiet
import Derived.Deep.QuietTactic
import Derived.Deep.DeepCutAuto
import Derived.Deep.CutRange
namespace Go.Proofs.Ytieehpajkidbcaa
open Go.RowKit
attribute [local go_sem ↓] Go.wp_at_zero Go.wp_at_succ

theorem Try.infoTask8 : (Try.prog.info? 36).map (fun i => (i.zero, i.size, i.bytes)) = some (some (.agg #[.int .i64 0, .int .i64 0, .int .u64 0, .int .u64 0, .int .u64 0, .bool false, .int .u64 0, .int .i64 0, .int .i64 0]), 9, 72) := by kernel_rfl
theorem Try.infoInt8 : (Try.prog.info? 3).map (fun i => (i.zero, i.size, i.bytes)) = some (some (.int .i64 0), 1, 8) := by kernel_rfl

def none8 : Array Value := #[.int .i64 0, .int .i64 0, .int .u64 0, .int .u64 0, .int .u64 0, .bool false, .int .u64 0, .int .i64 0, .int .i64 0]
def zero8 : Snd := ⟨0, 0, 0, 0, 0, false, 0, 0, 0⟩

theorem make_tasks (n : Nat) (h1 : n ≤ 1000) (w : World) :
    (Instr.makeSlice 52 (.int .i64 (n : Int)) (.int .i64 (n : Int))).run Try.prog w = .ok (.slice (some ⟨w.heap.size, 0, none⟩) n n) (w.alloc (.cells (madeCells none8 (n * 9)) 36)) := by
  obtain ⟨i0, hinf, hz0, hz1, hz2⟩ := info_parts Try.infoTask8
  have h := run_make (P := Try.prog) w 52 36 i0 _ Try.underlying52 hinf hz0 .i64 .i64 n n (by omega) (by omega) (by rw [hz2]; omega) (by omega)
  rw [h, hz1]
  simp [none8, Value.cells]
theorem make_ints (n : Nat) (h1 : n ≤ 1000) (w : World) :
    (Instr.makeSlice 51 (.int .i64 (n : Int)) (.int .i64 (n : Int))).run Try.prog w = .ok (.slice (some ⟨w.heap.size, 0, none⟩) n n) (w.alloc (.cells (madeCells #[.int .i64 0] (n * 1)) 3)) := by
  obtain ⟨i0, hinf, hz0, hz1, hz2⟩ := info_parts Try.infoInt8
  have h := run_make (P := Try.prog) w 51 3 i0 _ Try.underlying51 hinf hz0 .i64 .i64 n n (by omega) (by omega) (by rw [hz2]; omega) (by omega)
  rw [h, hz1]
  simp [Value.cells]

/-- The three rows that are made, in whatever order. -/
structure Three (wr wx : World) (K gt gs ge : Nat) : Prop where
  tasks : Items wx gt K 9 36 (fun _ j => zero8.cell j)
  sents : Items wx gs K 1 3 (fun _ _ => .int .i64 ((0 : Nat) : Int))
  seens : Items wx ge K 1 3 (fun _ _ => .int .i64 ((0 : Nat) : Int))
  from_ : wr.heap.size ≤ gt ∧ wr.heap.size ≤ gs ∧ wr.heap.size ≤ ge
  ne : gt ≠ gs ∧ gt ≠ ge ∧ gs ≠ ge
  below : Below wr.heap.size wr wx

theorem made_tasks (w : World) (K : Nat) : Items (w.alloc (.cells (madeCells none8 (K * 9)) 36)) w.heap.size K 9 36 (fun _ j => zero8.cell j) :=
  (Items.made (z := none8) (c := 9) rfl).congr (fun _ b _ hb => by
    obtain rfl | rfl | rfl | rfl | rfl | rfl | rfl | rfl | rfl : b = 0 ∨ b = 1 ∨ b = 2 ∨ b = 3 ∨ b = 4 ∨ b = 5 ∨ b = 6 ∨ b = 7 ∨ b = 8 := by omega
    all_goals rfl)
theorem made_ints (w : World) (K : Nat) : Items (w.alloc (.cells (madeCells #[.int .i64 0] (K * 1)) 3)) w.heap.size K 1 3 (fun _ _ => .int .i64 ((0 : Nat) : Int)) :=
  (Items.made (z := #[.int .i64 0]) (c := 1) rfl).congr (fun _ b _ hb => by
    obtain rfl : b = 0 := by omega
    rfl)
theorem Items.alloc {w : World} {g K c : Nat} {t : TypeId} {F : Nat → Nat → Value} (h : Items w g K c t F) (o : Obj) : Items (w.alloc o) g K c t F := h.kept (Below.heap_alloc _ _ _ h.lt)
theorem Items.drew {w : World} {g K c : Nat} {t : TypeId} {F : Nat → Nat → Value} (h : Items w g K c t F) : Items w.drew g K c t F := h.kept rfl

theorem Three.swap {wr wx : World} {K gt gs ge : Nat} (h : Three wr wx K gt gs ge) : Three wr wx K gt ge gs :=
  ⟨h.tasks, h.seens, h.sents, ⟨h.from_.1, h.from_.2.2, h.from_.2.1⟩, ⟨h.ne.2.1, h.ne.1, fun e => h.ne.2.2 e.symm⟩, h.below⟩
theorem below_trio (w : World) (x y z : Obj) : Below w.heap.size w (((w.alloc x).alloc y).alloc z).drew := (below_three w x y z).drew
theorem three_tii (w : World) {K : Nat} {T9 I1 : Array Value} (e1 : madeCells none8 (K * 9) = T9) (e2 : madeCells #[.int .i64 0] (K * 1) = I1) : Three w (((w.alloc (.cells T9 36)).alloc (.cells I1 3)).alloc (.cells I1 3)).drew K w.heap.size (w.heap.size + 1) (w.heap.size + 1 + 1) := by
  subst e1 e2
  have a := made_tasks w K
  have b := made_ints (w.alloc (.cells (madeCells none8 (K * 9)) 36)) K
  have c := made_ints ((w.alloc (.cells (madeCells none8 (K * 9)) 36)).alloc (.cells (madeCells #[.int .i64 0] (K * 1)) 3)) K
  simp only [World.size_alloc] at b c
  exact ⟨((a.alloc _).alloc _).drew, (b.alloc _).drew, c.drew, ⟨by omega, by omega, by omega⟩, ⟨by omega, by omega, by omega⟩, below_trio _ _ _ _⟩
theorem three_iti (w : World) {K : Nat} {T9 I1 : Array Value} (e1 : madeCells none8 (K * 9) = T9) (e2 : madeCells #[.int .i64 0] (K * 1) = I1) : Three w (((w.alloc (.cells I1 3)).alloc (.cells T9 36)).alloc (.cells I1 3)).drew K (w.heap.size + 1) w.heap.size (w.heap.size + 1 + 1) := by
  subst e1 e2
  have a := made_ints w K
  have b := made_tasks (w.alloc (.cells (madeCells #[.int .i64 0] (K * 1)) 3)) K
  have c := made_ints ((w.alloc (.cells (madeCells #[.int .i64 0] (K * 1)) 3)).alloc (.cells (madeCells none8 (K * 9)) 36)) K
  simp only [World.size_alloc] at b c
  exact ⟨(b.alloc _).drew, ((a.alloc _).alloc _).drew, c.drew, ⟨by omega, by omega, by omega⟩, ⟨by omega, by omega, by omega⟩, below_trio _ _ _ _⟩
theorem three_iit (w : World) {K : Nat} {T9 I1 : Array Value} (e1 : madeCells none8 (K * 9) = T9) (e2 : madeCells #[.int .i64 0] (K * 1) = I1) : Three w (((w.alloc (.cells I1 3)).alloc (.cells I1 3)).alloc (.cells T9 36)).drew K (w.heap.size + 1 + 1) w.heap.size (w.heap.size + 1) := by
  subst e1 e2
  have a := made_ints w K
  have b := made_ints (w.alloc (.cells (madeCells #[.int .i64 0] (K * 1)) 3)) K
  have c := made_tasks ((w.alloc (.cells (madeCells #[.int .i64 0] (K * 1)) 3)).alloc (.cells (madeCells #[.int .i64 0] (K * 1)) 3)) K
  simp only [World.size_alloc] at b c
  exact ⟨c.drew, ((a.alloc _).alloc _).drew, (b.alloc _).drew, ⟨by omega, by omega, by omega⟩, ⟨by omega, by omega, by omega⟩, below_trio _ _ _ _⟩

/-- How many senders the law takes. -/
theorem many_low (p : Int) : ∃ K : Nat, (K = 2 ∨ K = 3) ∧ IntKind.i64.wrap (bits .and .i64 p 1 + 2) = (K : Int) := by
  rw [show bits .and .i64 p 1 = p % 2 from i64_low p 1 (by omega)]
  have h0 : p % 2 = 0 ∨ p % 2 = 1 := by omega
  rcases h0 with h | h <;> rw [h]
  · exact ⟨2, by omega, by kernel_rfl⟩
  · exact ⟨3, by omega, by kernel_rfl⟩

/-- The 'if' on a slot, taken out of a body. -/
def findIf (n : Nat) : Code → Option Code
  | .cond (.tmp k) a b => if k = n then some (.cond (.tmp k) a b) else (match findIf n a with
    | some c => some c
    | none => findIf n b)
  | .cond _ a b => match findIf n a with
    | some c => some c
    | none => findIf n b
  | .seq a b => match findIf n a with
    | some c => some c
    | none => findIf n b
  | .loop c => findIf n c
  | .block _ c => findIf n c
  | .scope c => findIf n c
  | _ => none

/-- All blocks are there. -/
theorem Mny.start {w w2 wc w3 : World} {s : Spot} {a : Ar} {K gt gs ge : Nat} (hS : Side w w2 s a (fun k => k = w.heap.size)) (hr : w2.heap[w.heap.size]? = some (.cells #[.int .i64 0, .int .i64 2] 26 (0, 0))) (h : Three w2 wc K gt gs ge) (hb : Below wc.heap.size wc w3) :
    Mny w (w3.alloc (.cells #[.int .i64 0, .int .i64 2, .int .u64 0, .int .i64 0, .int .i64 0, .int .u64 0, .int .u64 0, .int .u64 0] 43)) s K a gt gs ge w3.heap.size (fun _ => zero8) (fun _ => 0) (fun _ => 0) ⟨0, 2, 0, 0, 0, 0, 0, 0⟩ := by
  have h0 := hS.old _ rfl
  obtain ⟨f1, f2, f3⟩ := h.from_
  obtain ⟨d1, d2, d3⟩ := h.ne
  have t1 := h.tasks.lt
  have t2 := h.sents.lt
  have t3 := h.seens.lt
  have z1 := h.below.size
  have z2 := hb.size
  have hB : Below w2.heap.size w2 (w3.alloc (.cells #[.int .i64 0, .int .i64 2, .int .u64 0, .int .i64 0, .int .i64 0, .int .u64 0, .int .u64 0, .int .u64 0] 43)) := (h.below.trans (hb.mono z1)).alloc (by omega) _
  have k : ∀ i, i < wc.heap.size → (w3.alloc (.cells #[.int .i64 0, .int .i64 2, .int .u64 0, .int .i64 0, .int .i64 0, .int .u64 0, .int .u64 0, .int .u64 0] 43)).heap[i]? = wc.heap[i]? := fun i hi => by
    rw [Below.heap_alloc _ _ _ (by omega), hb.block _ hi]
  refine ⟨hS.rest (o := fun _ => False) (Rest.of_below hB) (fun _ x => x.elim) (fun i hi => ?_) (fun i hi => ?_), (hB.block _ h0).trans hr, h.tasks.kept (k _ t1), h.sents.kept (k _ t2), h.seens.kept (k _ t3), heap_alloc_new _ _, ⟨by omega, by omega, by omega, by omega⟩, ⟨d1, d2, by omega, d3, by omega, by omega⟩⟩
  · rcases hi with e | e | e | e | e
    · exact .inl e
    · exact .inr (by omega)
    · exact .inr (by omega)
    · exact .inr (by omega)
    · exact .inr (by omega)
  · simp only [World.size_alloc]
    rcases hi with e | e | e | e | e <;> omega

end Go.Proofs.Ytieehpajkidbcaa
