/- Due's Put where it says no, and Take. -/
import Derived.Test.YtfjhknmpolhfeaaDueI
import Derived.Test.YtfjhknmpolhfeaaResT
namespace Go.Proofs.Ytfjhknmpolhfeaa
open Go.RowKit Go.Sort

theorem Try.sizeAlarm : (Try.prog.info? 31).map (·.size) = some 5 := by kernel_rfl

/-- Five cells of a block. -/
theorem five_zero {w : World} {B : Nat} {t : TypeId} {c0 c1 c2 c3 c4 : Value} (h : w.heap[B]? = some (.cells #[c0, c1, c2, c3, c4] t (0, 0))) :
    w.cell? ⟨B, 0, none⟩ = some c0 ∧ w.cell? ⟨B, 1, none⟩ = some c1 ∧ w.cell? ⟨B, 2, none⟩ = some c2 ∧ w.cell? ⟨B, 3, none⟩ = some c3 ∧ w.cell? ⟨B, 4, none⟩ = some c4 :=
  ⟨cell_of_row _ _ _ _ _ _ h, cell_of_row _ _ _ _ _ _ h, cell_of_row _ _ _ _ _ _ h, cell_of_row _ _ _ _ _ _ h, cell_of_row _ _ _ _ _ _ h⟩

/-- Five cells are written, and a block is laid. -/
theorem five_kept {w : World} {B : Nat} {t : TypeId} {c0 c1 c2 c3 c4 : Value} (h : w.heap[B]? = some (.cells #[c0, c1, c2, c3, c4] t (0, 0))) (y1 y2 y3 y4 y5 : Int) (o : Obj) :
    ((((((w.setCell ⟨B, 0, none⟩ (.int .i64 y1)).setCell ⟨B, 1, none⟩ (.int .i64 y2)).setCell ⟨B, 2, none⟩ (.int .i64 y3)).setCell ⟨B, 3, none⟩ (.int .i64 y4)).setCell ⟨B, 4, none⟩ (.int .i64 y5)).alloc o).heap[B]? = some (.cells #[.int .i64 y1, .int .i64 y2, .int .i64 y3, .int .i64 y4, .int .i64 y5] t (0, 0)) ∧
    Rest (fun k => k = B) w ((((((w.setCell ⟨B, 0, none⟩ (.int .i64 y1)).setCell ⟨B, 1, none⟩ (.int .i64 y2)).setCell ⟨B, 2, none⟩ (.int .i64 y3)).setCell ⟨B, 3, none⟩ (.int .i64 y4)).setCell ⟨B, 4, none⟩ (.int .i64 y5)).alloc o) := by
  have h1 := heap_setCell_same _ B 0 _ _ (.int .i64 y1) h
  have h2 := heap_setCell_same _ B 1 _ _ (.int .i64 y2) h1
  have h3 := heap_setCell_same _ B 2 _ _ (.int .i64 y3) h2
  have h4 := heap_setCell_same _ B 3 _ _ (.int .i64 y4) h3
  have h5 := heap_setCell_same _ B 4 _ _ (.int .i64 y5) h4
  have tr : ∀ {a b c : World}, Rest (fun k => k = B) a b → Rest (fun k => k = B) b c → Rest (fun k => k = B) a c := fun h k => h.trans (o3 := fun k => k = B) k (fun _ _ => id) (fun _ _ => id)
  exact ⟨(Below.heap_alloc _ _ _ (lt_of_block h5)).trans h5, tr (tr (tr (tr (tr (Rest.setCell _ _ _ rfl) (Rest.setCell _ _ _ rfl)) (Rest.setCell _ _ _ rfl)) (Rest.setCell _ _ _ rfl)) (Rest.setCell _ _ _ rfl)) (Rest.alloc _ _ _)⟩

set_option maxHeartbeats 1000000 in
/-- Where there is no room, none is laid. -/
theorem dput_full {B P : Nat} {n : Int} {q : List En} {L : Option Nat} (t c s g x : Int) (w : World) (h : Dz w B P n q L) (hm : 256 ≤ q.length) (hm2 : q.length ≤ 1000000) :
    Calls Try.prog 8 #[.pointer (some ⟨P, 0, none⟩), .agg #[.int .i64 t, .int .i64 c, .int .i64 s, .int .i64 g, .int .i64 x]] w fun e w' => e = .returned (.bool false) ∧ Rest (fun _ => False) w w' := by
  have HH := Lib.hid h
  clear h
  have hct := fun w => clamp_any t w
  generalize Tk.clamp t = u at hct
  have hq : ¬ ((q.length : Nat) : Int) < 256 := by omega
  go_enter Try.func8, Try.ntmps8
  go_wp2_with fail
  refine (hct _).mono ?_
  rintro e w1 ⟨rfl, rfl⟩
  by_cases hu : u = 1099511627776
  · subst hu
    go_wp2
    go_ret
    exact ⟨rfl, Rest.alloc _ _ _⟩
  · have hc : (u == 1099511627776) = false := by simp [hu]
    go_wp2_with fail
    refine (dlen_any _ (HH.out.none (Rest.alloc _ _ _))).mono ?_
    rintro e w1 ⟨rfl, rfl⟩
    go_wp2
    go_ret
    exact ⟨rfl, Rest.alloc _ _ _⟩
/-- One that never comes is not laid. -/
theorem dput_never (P : Nat) (t c s g x : Int) (w : World) (ht : Tk.clamp t = 1099511627776) :
    Calls Try.prog 8 #[.pointer (some ⟨P, 0, none⟩), .agg #[.int .i64 t, .int .i64 c, .int .i64 s, .int .i64 g, .int .i64 x]] w fun e w' => e = .returned (.bool false) ∧ Rest (fun _ => False) w w' := by
  have hct := fun w => clamp_any t w
  rw [ht] at hct
  go_enter Try.func8, Try.ntmps8
  go_wp2_with fail
  refine (hct _).mono ?_
  rintro e w1 ⟨rfl, rfl⟩
  go_wp2
  go_ret
  exact ⟨rfl, Rest.alloc _ _ _⟩
theorem dput_nil (t c s g x : Int) (w : World) :
    Calls Try.prog 8 #[.pointer none, .agg #[.int .i64 t, .int .i64 c, .int .i64 s, .int .i64 g, .int .i64 x]] w fun e w' => e = .returned (.bool false) ∧ Rest (fun _ => False) w w' := by
  have hct := fun w => clamp_any t w
  generalize Tk.clamp t = u at hct
  go_enter Try.func8, Try.ntmps8
  go_wp2_with fail
  refine (hct _).mono ?_
  rintro e w1 ⟨rfl, rfl⟩
  go_wp2
  go_ret
  exact ⟨rfl, Rest.alloc _ _ _⟩

set_option maxHeartbeats 1000000 in
/-- Where none has come. -/
theorem dtake_no {B P : Nat} {n : Int} {q : List En} {L : Option Nat} (now : Int) (w : World) (h : Dz w B P n q L) (hp : Tk.past now (Hp.first q) = false) :
    Calls Try.prog 6 #[.pointer (some ⟨P, 0, none⟩), .int .i64 now] w fun e w' => e = .returned (.tuple #[.agg #[.int .i64 0, .int .i64 0, .int .i64 0, .int .i64 0, .int .i64 0], .bool false]) ∧ Rest (fun _ => False) w w' := by
  have HH := Lib.hid h
  clear h
  have hpa := fun w => past_any now (Hp.first q) w
  rw [hp] at hpa
  have HA := Lib.hid (show ∀ w', Rest (fun _ => False) w w' → _ from fun w' hr => dfirst_any w' (HH.out.none hr))
  generalize Hp.first q = u at hpa HA
  go_enter Try.func6, Try.ntmps6
  go_wp2_with fail
  refine (HA.out _ (Rest.alloc _ _ _)).mono ?_
  rintro e w1 ⟨rfl, rfl⟩
  go_wp2_with fail
  refine (hpa _).mono ?_
  rintro e w1 ⟨rfl, rfl⟩
  go_wp2_with fail
  refine bodyPost_ret (results_row_tmp Try.results6 _ _ w.heap.size 31 _ (0, 0) _ rfl (heap_alloc_new _ _) Try.underlying31 rfl Try.sizeAlarm) rfl ⟨rfl, Rest.alloc _ _ _⟩
theorem dtake_nil (now : Int) (w : World) : Calls Try.prog 6 #[.pointer none, .int .i64 now] w fun e w' => e = .returned (.tuple #[.agg #[.int .i64 0, .int .i64 0, .int .i64 0, .int .i64 0, .int .i64 0], .bool false]) ∧ Rest (fun _ => False) w w' := by
  have hpa := fun w => past_any now 1099511627776 w
  have hp : Tk.past now 1099511627776 = false := by unfold Tk.past Tk.clamp; simp
  rw [hp] at hpa
  go_enter Try.func6, Try.ntmps6
  go_wp2_with fail
  refine (dfirst_nil _).mono ?_
  rintro e w1 ⟨rfl, rfl⟩
  go_wp2_with fail
  refine (hpa _).mono ?_
  rintro e w1 ⟨rfl, rfl⟩
  go_wp2_with fail
  refine bodyPost_ret (results_row_tmp Try.results6 _ _ w.heap.size 31 _ (0, 0) _ rfl (heap_alloc_new _ _) Try.underlying31 rfl Try.sizeAlarm) rfl ⟨rfl, Rest.alloc _ _ _⟩

set_option maxHeartbeats 2000000 in
/-- The earliest one has come: it is taken. -/
theorem dtake_yes {B P : Nat} {n : Int} {q : List En} {L : Option Nat} (now : Int) (w : World) (h : Dz w B P n q L) (hm : q.length ≤ 1000000) (hh : Hp.Heap q q.length) (h0 : q.length ≠ 0) (hp : Tk.past now (Hp.e q 0).t = true) :
    Calls Try.prog 6 #[.pointer (some ⟨P, 0, none⟩), .int .i64 now] w fun e w' => e = .returned (.tuple #[.agg (Hp.alarm (Hp.e q 0)).toArray, .bool true]) ∧ ∃ q', Dz w' B P n q' L ∧ q.Perm (Hp.e q 0 :: q') ∧ Hp.Heap q' q'.length ∧ Rest (fun k => k = P ∨ L = some k) w w' := by
  rcases h with ⟨-, -, rfl, -⟩ | ⟨gg, off, cap, rfl, h⟩
  · exact absurd rfl h0
  obtain ⟨m, hl⟩ : ∃ m, q.length = m + 1 := ⟨q.length - 1, by omega⟩
  have HH := Lib.hid h
  have hpa := fun w => past_any now (Hp.e q 0).t w
  rw [hp] at hpa
  have hf : Hp.first q = (Hp.e q 0).t := if_neg h0
  have HA := Lib.hid (show ∀ w', Rest (fun _ => False) w w' → _ from fun w' hr => dfirst_any w' (.inr ⟨gg, off, cap, rfl, h.none hr⟩))
  rw [hf] at HA
  have HB := Lib.hid (show ∀ w', Rest (fun _ => False) w w' → _ from fun w' hr => hpop_any w' (h.none hr) hl hm hh)
  have hPw := h.old
  have hgw := h.row.lt
  clear h hf hh hp
  generalize Hp.e q 0 = y at *
  obtain ⟨y1, y2, y3, y4, y5, y6⟩ := y
  simp only [Hp.enc, Hp.alarm] at HB ⊢
  dsimp only at hpa HA
  have hta := fun (w : World) => asserted (.agg #[.int .i64 y1, .int .i64 y2, .int .i64 y3, .int .i64 y4, .int .i64 y5, .int .i64 y6]) w
  go_enter Try.func6, Try.ntmps6
  go_wp2_with fail
  refine (HA.out _ (Rest.alloc _ _ _)).mono ?_
  rintro e w1 ⟨rfl, rfl⟩
  go_wp2_with fail
  refine (hpa _).mono ?_
  rintro e w1 ⟨rfl, rfl⟩
  have hb0 : (w.alloc (.cells #[.int .i64 0, .int .i64 0, .int .i64 0, .int .i64 0, .int .i64 0] 31)).heap[w.heap.size]? = some (.cells #[.int .i64 0, .int .i64 0, .int .i64 0, .int .i64 0, .int .i64 0] 31 (0, 0)) := heap_alloc_new _ _
  have hsz : (w.alloc (.cells #[.int .i64 0, .int .i64 0, .int .i64 0, .int .i64 0, .int .i64 0] 31)).heap.size = w.heap.size + 1 := by simp
  have hra : Rest (fun _ => False) w (w.alloc (.cells #[.int .i64 0, .int .i64 0, .int .i64 0, .int .i64 0, .int .i64 0] 31)) := Rest.alloc _ _ _
  have HPop := Lib.hid (HB.out _ hra)
  clear HA HB hpa
  go_wp2_with fail
  refine HPop.out.mono ?_
  rintro e w2 ⟨rfl, q', hd2, hl2, hp2, hh2, hr2⟩
  have hb2 : w2.heap[w.heap.size]? = some (.cells #[.int .i64 0, .int .i64 0, .int .i64 0, .int .i64 0, .int .i64 0] 31 (0, 0)) := (hr2.block _ (by omega) (fun (e : w.heap.size = P ∨ w.heap.size = gg) => by omega)).trans hb0
  have HR2 := Lib.hid (hra.trans (o3 := fun k => k = P ∨ some gg = some k) hr2 (fun _ _ => False.elim) (fun i _ e => e.imp id (fun e => by rw [e])))
  have HE := Lib.hid (show Dz w2 B P n q' (some gg) ∧ q.Perm (⟨y1, y2, y3, y4, y5, y6⟩ :: q') ∧ Hp.Heap q' q'.length from ⟨.inr ⟨gg, off, cap, rfl, hd2⟩, hp2, hh2⟩)
  have hz2 : w.heap.size < w2.heap.size := by have := hr2.size; omega
  obtain ⟨z0, z1, z2, z3, z4⟩ := five_zero hb2
  have HB2 := Lib.hid hb2
  have hf2 : ∀ i, w2.frozen? ⟨w.heap.size, i, none⟩ = false := fun _ => frozen_of_row _ _ _ _ _ hb2
  clear HPop hd2 hp2 hh2 hr2 hb0 hra hl2 hsz hb2
  go_wp2_with fail
  obtain ⟨hbl, hrl⟩ := five_kept HB2.out y1 y2 y3 y4 y5 (.cells #[.int .i64 y1, .int .i64 y2, .int .i64 y3, .int .i64 y4, .int .i64 y5, .int .i64 y6] 47)
  obtain ⟨hd, hp, hh⟩ := HE.out
  exact bodyPost_ret (results_row_tmp Try.results6 _ _ w.heap.size 31 _ (0, 0) _ rfl hbl Try.underlying31 rfl Try.sizeAlarm) rfl ⟨rfl, q',
    hd.kept hrl (fun e => by omega) (fun k hk e => by cases hk; omega), hp, hh, HR2.out.trans (o3 := fun k => k = P ∨ some gg = some k) hrl (fun _ _ => id) (fun i hi e => by omega)⟩
end Go.Proofs.Ytfjhknmpolhfeaa
