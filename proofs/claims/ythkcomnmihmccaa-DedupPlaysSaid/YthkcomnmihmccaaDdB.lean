/- The contracts of New, Value, Runs, Done and first: a call is met for the first time. -/
import Derived.Test.YthkcomnmihmccaaDdA
import Derived.Test.YthkcomnmihmccaaMid
import Derived.OwnWalk
namespace Go.Proofs.Ythkcomnmihmccaa
open Go.RowKit Go.Sort

theorem Try.infoCall : (Try.prog.info? 51).map (fun i => (i.zero.map (·.cells.size), i.size, i.bytes)) = some (some 22, 22, 48) := by kernel_rfl
theorem Try.bigCall : Big Try.prog 51 22 := Big.of Try.underlying51 rfl Try.infoCall (by decide)

/-- New. -/
def Dd.room (r : Int) : Int := max 0 (min r 64)
theorem dnew_any (r : Int) (w : World) : Calls Try.prog 5 #[.int .i64 r] w fun e w' => e = .returned (.pointer (some ⟨w.heap.size, 0, none⟩)) ∧ Dc w' w.heap.size (Dd.room r) [] none ∧ Below w.heap.size w w' := by
  have H := (Upon.start (fun _ => False) w).lay (.cells #[.int .i64 (Dd.room r), .slice none 0 0] 45)
  go_enter Try.func5, Try.ntmps5
  go_wp2
  all_goals (go_ret; exact ⟨rfl, .inl ⟨rfl, rfl, H.get 0 rfl⟩, H.below (fun _ => id)⟩)

/-- Value. -/
theorem dvalue_nil (k c s t g a r q v : Int) (su st : Bool) (w : World) : Calls Try.prog 9 #[.pointer none, .agg #[.int .i64 k, .int .i64 c, .int .i64 s, .int .i64 t, .int .i64 g, .int .u32 a, .int .i64 r, .bool su, .bool st, .int .i64 q, .int .u32 v]] w fun e w' => e = .returned (.tuple #[.int .u32 0, .bool false, .bool false]) ∧ Below w.heap.size w w' := by
  have H := Lib.hid ((Upon.start (fun _ => False) w).lay (.cells #[.int .i64 k, .int .i64 c, .int .i64 s, .int .i64 t, .int .i64 g, .int .u32 a, .int .i64 r, .bool su, .bool st, .int .i64 q, .int .u32 v] 28))
  obtain ⟨f0, f1, f2, f3, f4, f5, f6, f7, f8, f9, f10⟩ := frame_cells (H.out.get 0 rfl)
  go_enter Try.func9, Try.ntmps9
  go_upto_region 1 with fail
  generalize w.alloc _ = w1 at H f0 f1 f2 f3 f4 f5 f6 f7 f8 f9 f10 ⊢
  generalize w.heap.size = bF at H f0 f1 f2 f3 f4 f5 f6 f7 f8 f9 f10 ⊢
  go_wp2_with fail
  refine (dfind_nil k c s t g a r q v su st w1).mono ?_
  rintro e w2 ⟨rfl, hb⟩
  have H2 := Lib.hid (H.out.call hb)
  clear hb H f0 f1 f2 f3 f4 f5 f6 f7 f8 f9 f10
  go_wp2_with fail
  go_ret3
  exact ⟨rfl, H2.out.below (fun _ => id)⟩
theorem dvalue_no {P : Nat} {n : Int} {Q : List Dd.Cl} {L : Option Nat} (k c s t g a r q v : Int) (su st : Bool) (hQ : Q.length ≤ 1000000) (hz : Dd.Non Q c a) (w : World) (h : Dc w P n Q L) : Calls Try.prog 9 #[.pointer (some ⟨P, 0, none⟩), .agg #[.int .i64 k, .int .i64 c, .int .i64 s, .int .i64 t, .int .i64 g, .int .u32 a, .int .i64 r, .bool su, .bool st, .int .i64 q, .int .u32 v]] w fun e w' => e = .returned (.tuple #[.int .u32 0, .bool false, .bool false]) ∧ Below w.heap.size w w' := by
  have H := Lib.hid ((Upon.start (fun _ => False) w).lay (.cells #[.int .i64 k, .int .i64 c, .int .i64 s, .int .i64 t, .int .i64 g, .int .u32 a, .int .i64 r, .bool su, .bool st, .int .i64 q, .int .u32 v] 28))
  obtain ⟨f0, f1, f2, f3, f4, f5, f6, f7, f8, f9, f10⟩ := frame_cells (H.out.get 0 rfl)
  have HC := Lib.hid (h.call (H.out.below (fun _ => id)))
  clear h
  go_enter Try.func9, Try.ntmps9
  go_upto_region 1 with fail
  generalize w.alloc _ = w1 at HC H f0 f1 f2 f3 f4 f5 f6 f7 f8 f9 f10 ⊢
  generalize w.heap.size = bF at H f0 f1 f2 f3 f4 f5 f6 f7 f8 f9 f10 ⊢
  go_wp2_with fail
  refine (dfind_no k c s t g a r q v su st hQ hz w1 HC.out).mono ?_
  rintro e w2 ⟨rfl, hb⟩
  have H2 := Lib.hid (H.out.call hb)
  clear hb H f0 f1 f2 f3 f4 f5 f6 f7 f8 f9 f10
  go_wp2_with fail
  go_ret3
  exact ⟨rfl, H2.out.below (fun _ => id)⟩
theorem dvalue_yes {P : Nat} {n : Int} {Q : List Dd.Cl} {L : Option Nat} {i : Nat} {x : Dd.Cl} (k c s t g a r q v : Int) (su st : Bool) (hQ : Q.length ≤ 1000000) (hz : Dd.At Q c a i x) (w : World) (h : Dc w P n Q L) : Calls Try.prog 9 #[.pointer (some ⟨P, 0, none⟩), .agg #[.int .i64 k, .int .i64 c, .int .i64 s, .int .i64 t, .int .i64 g, .int .u32 a, .int .i64 r, .bool su, .bool st, .int .i64 q, .int .u32 v]] w fun e w' => e = .returned (.tuple #[.int .u32 x.v, .bool x.o, .bool x.d]) ∧ Below w.heap.size w w' := by
  obtain ⟨G, off, cap, -, hd⟩ := h.some_ hz.lt
  have H := Lib.hid ((Upon.start (fun _ => False) w).lay (.cells #[.int .i64 k, .int .i64 c, .int .i64 s, .int .i64 t, .int .i64 g, .int .u32 a, .int .i64 r, .bool su, .bool st, .int .i64 q, .int .u32 v] 28))
  obtain ⟨f0, f1, f2, f3, f4, f5, f6, f7, f8, f9, f10⟩ := frame_cells (H.out.get 0 rfl)
  have HC := Lib.hid (hd.call (H.out.below (fun _ => id)))
  have HZ := Lib.hid hz
  clear h hd hz
  go_enter Try.func9, Try.ntmps9
  go_upto_region 1 with fail
  generalize w.alloc _ = w1 at HC H f0 f1 f2 f3 f4 f5 f6 f7 f8 f9 f10 ⊢
  generalize w.heap.size = bF at H f0 f1 f2 f3 f4 f5 f6 f7 f8 f9 f10 ⊢
  go_wp2_with fail
  refine (dfind_yes k c s t g a r q v su st hQ HZ.out w1 HC.out).mono ?_
  rintro e w2 ⟨rfl, hb⟩
  have H2 := Lib.hid (H.out.call hb)
  obtain ⟨-, -, -, x19, x20, x21, -⟩ := (HC.out.call hb).item HZ.out.at_
  clear hb H f0 f1 f2 f3 f4 f5 f6 f7 f8 f9 f10 HC
  go_wp2_with fail
  go_quiet (fail)
  have H3 := Lib.hid (H2.out.drewN nq)
  clear H2
  go_wp2_with fail
  go_ret3
  exact ⟨rfl, H3.out.below (fun _ => id)⟩

/-- Runs. -/
theorem druns_nil (k c s t g a r q v : Int) (su st : Bool) (w : World) : Calls Try.prog 11 #[.pointer none, .agg #[.int .i64 k, .int .i64 c, .int .i64 s, .int .i64 t, .int .i64 g, .int .u32 a, .int .i64 r, .bool su, .bool st, .int .i64 q, .int .u32 v]] w fun e w' => e = .returned (.int .i64 0) ∧ Below w.heap.size w w' := by
  have H := Lib.hid ((Upon.start (fun _ => False) w).lay (.cells #[.int .i64 k, .int .i64 c, .int .i64 s, .int .i64 t, .int .i64 g, .int .u32 a, .int .i64 r, .bool su, .bool st, .int .i64 q, .int .u32 v] 28))
  obtain ⟨f0, f1, f2, f3, f4, f5, f6, f7, f8, f9, f10⟩ := frame_cells (H.out.get 0 rfl)
  go_enter Try.func11, Try.ntmps11
  go_upto_region 1 with fail
  generalize w.alloc _ = w1 at H f0 f1 f2 f3 f4 f5 f6 f7 f8 f9 f10 ⊢
  generalize w.heap.size = bF at H f0 f1 f2 f3 f4 f5 f6 f7 f8 f9 f10 ⊢
  go_wp2_with fail
  refine (dfind_nil k c s t g a r q v su st w1).mono ?_
  rintro e w2 ⟨rfl, hb⟩
  have H2 := Lib.hid (H.out.call hb)
  clear hb H f0 f1 f2 f3 f4 f5 f6 f7 f8 f9 f10
  go_wp2_with fail
  go_ret
  exact ⟨rfl, H2.out.below (fun _ => id)⟩
theorem druns_no {P : Nat} {n : Int} {Q : List Dd.Cl} {L : Option Nat} (k c s t g a r q v : Int) (su st : Bool) (hQ : Q.length ≤ 1000000) (hz : Dd.Non Q c a) (w : World) (h : Dc w P n Q L) : Calls Try.prog 11 #[.pointer (some ⟨P, 0, none⟩), .agg #[.int .i64 k, .int .i64 c, .int .i64 s, .int .i64 t, .int .i64 g, .int .u32 a, .int .i64 r, .bool su, .bool st, .int .i64 q, .int .u32 v]] w fun e w' => e = .returned (.int .i64 0) ∧ Below w.heap.size w w' := by
  have H := Lib.hid ((Upon.start (fun _ => False) w).lay (.cells #[.int .i64 k, .int .i64 c, .int .i64 s, .int .i64 t, .int .i64 g, .int .u32 a, .int .i64 r, .bool su, .bool st, .int .i64 q, .int .u32 v] 28))
  obtain ⟨f0, f1, f2, f3, f4, f5, f6, f7, f8, f9, f10⟩ := frame_cells (H.out.get 0 rfl)
  have HC := Lib.hid (h.call (H.out.below (fun _ => id)))
  clear h
  go_enter Try.func11, Try.ntmps11
  go_upto_region 1 with fail
  generalize w.alloc _ = w1 at HC H f0 f1 f2 f3 f4 f5 f6 f7 f8 f9 f10 ⊢
  generalize w.heap.size = bF at H f0 f1 f2 f3 f4 f5 f6 f7 f8 f9 f10 ⊢
  go_wp2_with fail
  refine (dfind_no k c s t g a r q v su st hQ hz w1 HC.out).mono ?_
  rintro e w2 ⟨rfl, hb⟩
  have H2 := Lib.hid (H.out.call hb)
  clear hb H f0 f1 f2 f3 f4 f5 f6 f7 f8 f9 f10
  go_wp2_with fail
  go_ret
  exact ⟨rfl, H2.out.below (fun _ => id)⟩
theorem druns_yes {P : Nat} {n : Int} {Q : List Dd.Cl} {L : Option Nat} {i : Nat} {x : Dd.Cl} (k c s t g a r q v : Int) (su st : Bool) (hQ : Q.length ≤ 1000000) (hz : Dd.At Q c a i x) (w : World) (h : Dc w P n Q L) : Calls Try.prog 11 #[.pointer (some ⟨P, 0, none⟩), .agg #[.int .i64 k, .int .i64 c, .int .i64 s, .int .i64 t, .int .i64 g, .int .u32 a, .int .i64 r, .bool su, .bool st, .int .i64 q, .int .u32 v]] w fun e w' => e = .returned (.int .i64 x.r) ∧ Below w.heap.size w w' := by
  obtain ⟨G, off, cap, -, hd⟩ := h.some_ hz.lt
  have H := Lib.hid ((Upon.start (fun _ => False) w).lay (.cells #[.int .i64 k, .int .i64 c, .int .i64 s, .int .i64 t, .int .i64 g, .int .u32 a, .int .i64 r, .bool su, .bool st, .int .i64 q, .int .u32 v] 28))
  obtain ⟨f0, f1, f2, f3, f4, f5, f6, f7, f8, f9, f10⟩ := frame_cells (H.out.get 0 rfl)
  have HC := Lib.hid (hd.call (H.out.below (fun _ => id)))
  have HZ := Lib.hid hz
  clear h hd hz
  go_enter Try.func11, Try.ntmps11
  go_upto_region 1 with fail
  generalize w.alloc _ = w1 at HC H f0 f1 f2 f3 f4 f5 f6 f7 f8 f9 f10 ⊢
  generalize w.heap.size = bF at H f0 f1 f2 f3 f4 f5 f6 f7 f8 f9 f10 ⊢
  go_wp2_with fail
  refine (dfind_yes k c s t g a r q v su st hQ HZ.out w1 HC.out).mono ?_
  rintro e w2 ⟨rfl, hb⟩
  have H2 := Lib.hid (H.out.call hb)
  obtain ⟨-, -, x18, -⟩ := (HC.out.call hb).item HZ.out.at_
  clear hb H f0 f1 f2 f3 f4 f5 f6 f7 f8 f9 f10 HC
  go_wp2_with fail
  go_ret
  exact ⟨rfl, H2.out.below (fun _ => id)⟩

/-- Done. -/
theorem ddone_nil (k c s t g a r q v : Int) (su st ok : Bool) (V : Int) (w : World) : Calls Try.prog 7 #[.pointer none, .agg #[.int .i64 k, .int .i64 c, .int .i64 s, .int .i64 t, .int .i64 g, .int .u32 a, .int .i64 r, .bool su, .bool st, .int .i64 q, .int .u32 v], .bool ok, .int .u32 V] w fun e w' => e = .returned (.tuple #[]) ∧ Below w.heap.size w w' := by
  have H := Lib.hid ((Upon.start (fun _ => False) w).lay (.cells #[.int .i64 k, .int .i64 c, .int .i64 s, .int .i64 t, .int .i64 g, .int .u32 a, .int .i64 r, .bool su, .bool st, .int .i64 q, .int .u32 v] 28))
  obtain ⟨f0, f1, f2, f3, f4, f5, f6, f7, f8, f9, f10⟩ := frame_cells (H.out.get 0 rfl)
  go_enter Try.func7, Try.ntmps7
  go_upto_region 1 with fail
  generalize w.alloc _ = w1 at H f0 f1 f2 f3 f4 f5 f6 f7 f8 f9 f10 ⊢
  generalize w.heap.size = bF at H f0 f1 f2 f3 f4 f5 f6 f7 f8 f9 f10 ⊢
  go_wp2_with fail
  refine (dfind_nil k c s t g a r q v su st w1).mono ?_
  rintro e w2 ⟨rfl, hb⟩
  have H2 := Lib.hid (H.out.call hb)
  clear hb H f0 f1 f2 f3 f4 f5 f6 f7 f8 f9 f10
  go_wp2_with fail
  refine bodyPost_ret (results_none rfl _ _ _) rfl ?_
  exact ⟨rfl, H2.out.below (fun _ => id)⟩
theorem ddone_no {P : Nat} {n : Int} {Q : List Dd.Cl} {L : Option Nat} (k c s t g a r q v : Int) (su st ok : Bool) (V : Int) (hQ : Q.length ≤ 1000000) (hz : Dd.Non Q c a) (w : World) (h : Dc w P n Q L) : Calls Try.prog 7 #[.pointer (some ⟨P, 0, none⟩), .agg #[.int .i64 k, .int .i64 c, .int .i64 s, .int .i64 t, .int .i64 g, .int .u32 a, .int .i64 r, .bool su, .bool st, .int .i64 q, .int .u32 v], .bool ok, .int .u32 V] w fun e w' => e = .returned (.tuple #[]) ∧ Below w.heap.size w w' := by
  have H := Lib.hid ((Upon.start (fun _ => False) w).lay (.cells #[.int .i64 k, .int .i64 c, .int .i64 s, .int .i64 t, .int .i64 g, .int .u32 a, .int .i64 r, .bool su, .bool st, .int .i64 q, .int .u32 v] 28))
  obtain ⟨f0, f1, f2, f3, f4, f5, f6, f7, f8, f9, f10⟩ := frame_cells (H.out.get 0 rfl)
  have HC := Lib.hid (h.call (H.out.below (fun _ => id)))
  clear h
  go_enter Try.func7, Try.ntmps7
  go_upto_region 1 with fail
  generalize w.alloc _ = w1 at HC H f0 f1 f2 f3 f4 f5 f6 f7 f8 f9 f10 ⊢
  generalize w.heap.size = bF at H f0 f1 f2 f3 f4 f5 f6 f7 f8 f9 f10 ⊢
  go_wp2_with fail
  refine (dfind_no k c s t g a r q v su st hQ hz w1 HC.out).mono ?_
  rintro e w2 ⟨rfl, hb⟩
  have H2 := Lib.hid (H.out.call hb)
  clear hb H f0 f1 f2 f3 f4 f5 f6 f7 f8 f9 f10
  go_wp2_with fail
  refine bodyPost_ret (results_none rfl _ _ _) rfl ?_
  exact ⟨rfl, H2.out.below (fun _ => id)⟩
theorem ddone_old {P : Nat} {n : Int} {Q : List Dd.Cl} {L : Option Nat} {i : Nat} {x : Dd.Cl} (k c s t g a r q v : Int) (su st ok : Bool) (V : Int) (hQ : Q.length ≤ 1000000) (hz : Dd.At Q c a i x) (hx : x.d = true) (w : World) (h : Dc w P n Q L) : Calls Try.prog 7 #[.pointer (some ⟨P, 0, none⟩), .agg #[.int .i64 k, .int .i64 c, .int .i64 s, .int .i64 t, .int .i64 g, .int .u32 a, .int .i64 r, .bool su, .bool st, .int .i64 q, .int .u32 v], .bool ok, .int .u32 V] w fun e w' => e = .returned (.tuple #[]) ∧ Below w.heap.size w w' := by
  obtain ⟨G, off, cap, -, hd⟩ := h.some_ hz.lt
  have H := Lib.hid ((Upon.start (fun _ => False) w).lay (.cells #[.int .i64 k, .int .i64 c, .int .i64 s, .int .i64 t, .int .i64 g, .int .u32 a, .int .i64 r, .bool su, .bool st, .int .i64 q, .int .u32 v] 28))
  obtain ⟨f0, f1, f2, f3, f4, f5, f6, f7, f8, f9, f10⟩ := frame_cells (H.out.get 0 rfl)
  have HC := Lib.hid (hd.call (H.out.below (fun _ => id)))
  have HZ := Lib.hid hz
  clear h hd hz
  go_enter Try.func7, Try.ntmps7
  go_upto_region 1 with fail
  generalize w.alloc _ = w1 at HC H f0 f1 f2 f3 f4 f5 f6 f7 f8 f9 f10 ⊢
  generalize w.heap.size = bF at H f0 f1 f2 f3 f4 f5 f6 f7 f8 f9 f10 ⊢
  go_wp2_with fail
  refine (dfind_yes k c s t g a r q v su st hQ HZ.out w1 HC.out).mono ?_
  rintro e w2 ⟨rfl, hb⟩
  have H2 := Lib.hid (H.out.call hb)
  obtain ⟨-, -, -, x19, -⟩ := (HC.out.call hb).item HZ.out.at_
  rw [hx] at x19
  clear hb H f0 f1 f2 f3 f4 f5 f6 f7 f8 f9 f10 HC
  go_wp2_with fail
  refine bodyPost_ret (results_none rfl _ _ _) rfl ?_
  exact ⟨rfl, H2.out.below (fun _ => id)⟩
set_option maxHeartbeats 1000000 in
theorem ddone_yes {P : Nat} {n : Int} {Q : List Dd.Cl} {L : Option Nat} {i : Nat} {x : Dd.Cl} (k c s t g a r q v : Int) (su st ok : Bool) (V : Int) (hQ : Q.length ≤ 1000000) (hz : Dd.At Q c a i x) (hx : x.d = false) (w : World) (h : Dc w P n Q L) : Calls Try.prog 7 #[.pointer (some ⟨P, 0, none⟩), .agg #[.int .i64 k, .int .i64 c, .int .i64 s, .int .i64 t, .int .i64 g, .int .u32 a, .int .i64 r, .bool su, .bool st, .int .i64 q, .int .u32 v], .bool ok, .int .u32 V] w fun e w' => e = .returned (.tuple #[]) ∧ Dc w' P n (Q.set i (x.done ok V)) L ∧ Rest (fun k => L = some k) w w' := by
  obtain ⟨G, off, cap, rfl, hd⟩ := h.some_ hz.lt
  have H := Lib.hid ((Upon.start (fun _ => False) w).lay (.cells #[.int .i64 k, .int .i64 c, .int .i64 s, .int .i64 t, .int .i64 g, .int .u32 a, .int .i64 r, .bool su, .bool st, .int .i64 q, .int .u32 v] 28))
  obtain ⟨f0, f1, f2, f3, f4, f5, f6, f7, f8, f9, f10⟩ := frame_cells (H.out.get 0 rfl)
  have HC := Lib.hid (hd.call (H.out.below (fun _ => id)))
  have HZ := Lib.hid hz
  clear h hd hz
  go_enter Try.func7, Try.ntmps7
  go_upto_region 1 with fail
  generalize w.alloc _ = w1 at HC H f0 f1 f2 f3 f4 f5 f6 f7 f8 f9 f10 ⊢
  generalize w.heap.size = bF at H f0 f1 f2 f3 f4 f5 f6 f7 f8 f9 f10 ⊢
  go_wp2_with fail
  refine (dfind_yes k c s t g a r q v su st hQ HZ.out w1 HC.out).mono ?_
  rintro e w2 ⟨rfl, hb⟩
  have H2 := Lib.hid (H.out.call hb).rest
  have HD := Lib.hid (HC.out.call hb)
  obtain ⟨-, -, -, x19, x20, x21, -, fz⟩ := HD.out.item HZ.out.at_
  have e19 := fz (off + i * 22 + 19)
  have e20 := fz (off + i * 22 + 20)
  have e21 := fz (off + i * 22 + 21)
  have h1 := HD.out.write HZ.out.at_ (x' := { x with d := true }) 19 (by decide) rfl (v := .bool true) rfl
  have h2 := h1.write (List.getElem?_set_self HZ.out.lt) (x' := { x with d := true, o := ok }) 20 (by decide) rfl (v := .bool ok) rfl
  have h3 := h2.write (List.getElem?_set_self (by rw [List.length_set]; exact HZ.out.lt)) (x' := x.done ok V) 21 (by decide) rfl (v := .int .u32 V) rfl
  rw [List.set_set, List.set_set] at h3
  have H3 := Lib.hid h3
  rw [hx] at x19
  clear hb H f0 f1 f2 f3 f4 f5 f6 f7 f8 f9 f10 HC h1 h2 h3 fz HD
  go_wp2_with fail
  go_end0
  have s : ∀ (w : World) (i : Nat) (v : Value), Rest (fun k => some G = some k) w (w.setCell ⟨G, i, none⟩ v) := fun w i v => Rest.setCell _ _ _ rfl
  have u : ∀ {a b c : World}, Rest (fun k => some G = some k) a b → Rest (fun k => some G = some k) b c → Rest (fun k => some G = some k) a c := fun h k => h.trans k (fun _ _ x => x) (fun _ _ x => x)
  exact ⟨rfl, H3.out.dc, u (H2.out.mono (fun _ _ => False.elim)) (u (u (s _ _ _) (s _ _ _)) (s _ _ _))⟩
end Go.Proofs.Ythkcomnmihmccaa
