/- The law on any words: it returns true. -/
import Derived.Test.YtcpgigmnmlmpjaaDoorFrmL
import Derived.Deep.DeepCutAuto
namespace Go.Proofs.YtcpgigmnmlmpjaaDoor
open Go.RowKit

/-- In the midst of the law: the words that came, those that are asked for. -/
structure Ask (v0 v1 v2 : Nat) (w wk : World) (b : Nat) (y0 y1 y2 : Nat) : Prop where
  lay : Lay wk
  below : Below w.heap.size w wk
  came : wk.heap[w.heap.size + 1]? = some (.cells #[.int .u64 (v0 : Int), .int .u64 (v1 : Int), .int .u64 (v2 : Int)] 28 (0, 0))
  asks : wk.heap[b]? = some (.cells #[.int .u64 (y0 : Int), .int .u64 (y1 : Int), .int .u64 (y2 : Int)] 28 (0, 0))
  far : w.heap.size + 1 < b
  big : 11 ≤ w.heap.size
  s0 : y0 < 18446744073709551616
  s1 : y1 < 18446744073709551616
  s2 : y2 < 18446744073709551616
theorem Ask.kept {v0 v1 v2 : Nat} {w wk wn : World} {b y0 y1 y2 : Nat} (h : Ask v0 v1 v2 w wk b y0 y1 y2) (hb : Below wk.heap.size wk wn) : Ask v0 v1 v2 w wn b y0 y1 y2 :=
  ⟨h.lay.kept hb, on h.below hb, keep h.came hb, keep h.asks hb, h.far, h.big, h.s0, h.s1, h.s2⟩

theorem Ask.new {v0 v1 v2 : Nat} {w w2 : World} (hL : Lay w2) (hB : Below w.heap.size w w2) (hP : w2.heap[w.heap.size + 1]? = some (.cells #[.int .u64 (v0 : Int), .int .u64 (v1 : Int), .int .u64 (v2 : Int)] 28 (0, 0))) (hsz : w.heap.size + 1 < w2.heap.size) (hbig : 11 ≤ w.heap.size)
    (y0 y1 y2 : Nat) (h0 : y0 < 18446744073709551616) (h1 : y1 < 18446744073709551616) (h2 : y2 < 18446744073709551616) :
    Ask v0 v1 v2 w (w2.alloc (.cells #[.int .u64 (y0 : Int), .int .u64 (y1 : Int), .int .u64 (y2 : Int)] 28)) w2.heap.size y0 y1 y2 :=
  ⟨hL.kept (below_box _ _), on hB (below_box _ _), keep1 hP _, heap_alloc_new _ _, hsz, hbig, h0, h1, h2⟩
/-- The words that came are asked for. -/
theorem Ask.over {v0 v1 v2 : Nat} {w wk : World} {b y0 y1 y2 : Nat} (h : Ask v0 v1 v2 w wk b y0 y1 y2) (g0 : v0 < 18446744073709551616) (g1 : v1 < 18446744073709551616) (g2 : v2 < 18446744073709551616) :
    Ask v0 v1 v2 w (((wk.setCell ⟨b, 0, none⟩ (.int .u64 (v0 : Int))).setCell ⟨b, 1, none⟩ (.int .u64 (v1 : Int))).setCell ⟨b, 2, none⟩ (.int .u64 (v2 : Int))) b v0 v1 v2 := by
  have hf := h.far
  have hg := h.big
  refine ⟨((h.lay.put (by omega) _).put (by omega) _).put (by omega) _, ((h.below.setCell (show _ ≤ b by omega) _).setCell (show _ ≤ b by omega) _).setCell (show _ ≤ b by omega) _, ?_, words_laid h.asks, hf, hg, g0, g1, g2⟩
  rw [heap_setCell_other _ _ _ _ (show _ ≠ b by omega), heap_setCell_other _ _ _ _ (show _ ≠ b by omega), heap_setCell_other _ _ _ _ (show _ ≠ b by omega)]
  exact h.came

theorem xor_nat (x : Nat) (X : Int) (hx : x < 18446744073709551616) : ∃ m : Nat, m < 18446744073709551616 ∧ bits .xor .u64 (x : Int) (IntKind.u64.wrap X) = m := by
  have h0 : 0 ≤ IntKind.u64.wrap X := by rw [IntKind.wrap_u64]; omega
  have h1 : IntKind.u64.wrap X < 18446744073709551616 := by rw [IntKind.wrap_u64]; omega
  obtain ⟨y, hy⟩ := Int.eq_ofNat_of_zero_le h0
  rw [hy] at h1 ⊢
  refine ⟨x ^^^ y, ?_, u64_xor_nat x y hx (by omega)⟩
  rw [← Fld.pow64] at hx ⊢
  exact Nat.xor_lt_two_pow hx (by rw [Fld.pow64]; omega)

set_option maxRecDepth 100000 in
set_option maxHeartbeats 1000000 in
/-- The law. -/
theorem gets_any (k c s t g a r q v n : Int) (su st : Bool) (v0 v1 v2 : Nat) (ha : 0 ≤ a ∧ a ≤ 4294967295) (hv : 0 ≤ v ∧ v ≤ 4294967295) (g0 : v0 < 18446744073709551616) (g1 : v1 < 18446744073709551616) (g2 : v2 < 18446744073709551616) (w : World) (hL : Lay w) :
    Calls Tryd.prog 4 #[.agg #[.int .i64 k, .int .i64 c, .int .i64 s, .int .i64 t, .int .i64 g, .int .u32 a, .int .i64 r, .bool su, .bool st, .int .i64 q, .int .u32 v], .int .i64 n, .agg #[.int .u64 (v0 : Int), .int .u64 (v1 : Int), .int .u64 (v2 : Int)]] w fun e w' => e = .returned (.bool true) ∧ Below w.heap.size w w' := by
  have m1 := low255 n
  obtain ⟨K, hK⟩ : ∃ K, K = n % 256 % 192 := ⟨_, rfl⟩
  have e1 : (n % 256).tmod 192 = K := by rw [Int.tmod_eq_emod_of_nonneg (by omega)]; exact hK.symm
  have k0 : 0 ≤ K := by omega
  have k1 : K ≤ 191 := by omega
  have e3 : K.tmod 64 = K % 64 := Int.tmod_eq_emod_of_nonneg k0
  have e2 : K.tdiv 64 = K / 64 := Int.tdiv_eq_ediv_of_nonneg k0
  clear hK
  go_enter Tryd.func4, Tryd.ntmps4
  go_wp2_with fail
  refine (near_zero _ _ _ _ _ _ _ _ _ _ _ ha hv _).mono ?_
  rintro e w1 ⟨⟨f, hf, rfl⟩, hb1⟩
  have hB1 := below_kept hb1
  have hP := second_kept hb1
  clear hb1
  go_wp2_with fail
  refine (fput2_yes f hf _).mono ?_
  rintro e w2 ⟨rfl, hb2⟩
  have hB2 := on hB1 hb2
  have hP2 := keep hP hb2
  have hsz : w.heap.size + 1 < w2.heap.size := by have := hB2.size; have := heap_lt hP2; omega
  have hbig := hL.size
  have HP2 := Lib.hid hP2
  have HB2 := Lib.hid hB2
  have HL2 := Lib.hid (hL.kept hB2)
  clear hL hB1 hP hb2 hB2 hP2
  go_upto_region 3 with fail
  go_cut [] (fun wx => ∃ y0 y1 y2 : Nat, Hid (Ask v0 v1 v2 w wx w2.heap.size y0 y1 y2))
  case first =>
    rcases (show K / 64 = 0 ∨ K / 64 = 1 ∨ K / 64 = 2 by omega) with h | h | h
    · rw [h] at e2
      go_wp2_with fail
      go_meet
      case rel =>
        obtain ⟨m, hm, em⟩ := xor_nat (Fm.w0 f) (2 ^ (K % 64).toNat) (Fm.w0_small f)
        rw [em]
        exact ⟨m, (Fm.w1 f), (Fm.w2 f), Lib.hid (Ask.new HL2.out HB2.out HP2.out hsz hbig m (Fm.w1 f) (Fm.w2 f) hm (Fm.w1_small f) (Fm.w2_small f))⟩
    · rw [h] at e2
      go_wp2_with fail
      go_meet
      case rel =>
        obtain ⟨m, hm, em⟩ := xor_nat (Fm.w1 f) (2 ^ (K % 64).toNat) (Fm.w1_small f)
        rw [em]
        exact ⟨(Fm.w0 f), m, (Fm.w2 f), Lib.hid (Ask.new HL2.out HB2.out HP2.out hsz hbig (Fm.w0 f) m (Fm.w2 f) (Fm.w0_small f) hm (Fm.w2_small f))⟩
    · rw [h] at e2
      go_wp2_with fail
      go_meet
      case rel =>
        obtain ⟨m, hm, em⟩ := xor_nat (Fm.w2 f) (2 ^ (K % 64).toNat) (Fm.w2_small f)
        rw [em]
        exact ⟨(Fm.w0 f), (Fm.w1 f), m, Lib.hid (Ask.new HL2.out HB2.out HP2.out hsz hbig (Fm.w0 f) (Fm.w1 f) m (Fm.w0_small f) (Fm.w1_small f) hm)⟩
  clear HP2 HB2 HL2 hsz hbig
  obtain ⟨y0, y1, y2, hA⟩ := hcut
  clear m1 e1 e2 e3 k0 k1
  go_upto_if 35 with fail
  go_cut [] (fun wx => ∃ y0 y1 y2 : Nat, Hid (Ask v0 v1 v2 w wx w2.heap.size y0 y1 y2))
  case first =>
    by_cases hz : bits .and .i64 n 768 = 0
    · have hd : (bits .and .i64 n 768 == 0) = true := by simp [hz]
      obtain ⟨p0, p1, p2⟩ := word_cells hA.out.came
      obtain ⟨q0, q1, q2⟩ := word_cells hA.out.asks
      obtain ⟨f0, f1, f2⟩ : wc.frozen? ⟨w2.heap.size, 0, none⟩ = false ∧ wc.frozen? ⟨w2.heap.size, 1, none⟩ = false ∧ wc.frozen? ⟨w2.heap.size, 2, none⟩ = false := ⟨frozen_of_row _ _ _ _ _ hA.out.asks, frozen_of_row _ _ _ _ _ hA.out.asks, frozen_of_row _ _ _ _ _ hA.out.asks⟩
      clear hz
      go_wp2_with fail
      go_meet
      case rel => exact ⟨v0, v1, v2, Lib.hid (hA.out.over g0 g1 g2)⟩
    · have hd : (bits .and .i64 n 768 == 0) = false := by simp [hz]
      clear hz
      go_wp2_with fail
      go_meet
      case rel => exact ⟨y0, y1, y2, hA⟩
  clear hA
  obtain ⟨y0, y1, y2, hA⟩ := hcut
  obtain ⟨p0, p1, p2⟩ := word_cells hA.out.asks
  go_wp2_with fail
  refine (fget_any y0 y1 y2 hA.out.s0 hA.out.s1 hA.out.s2 _ hA.out.lay).mono ?_
  rintro e w5 ⟨hE, hb⟩
  clear p0 p1 p2
  by_cases hT : Theirs y0 y1 y2
  · obtain rfl := hE.1 hT
    have HA3 := Lib.hid ((hA.out.kept hb).kept (below_box w5 (.cells #[.int .i64 ((Fm.rd y0 y1 y2).kind : Int), .int .i64 ((Fm.rd y0 y1 y2).client : Int), .int .i64 ((Fm.rd y0 y1 y2).service : Int), .int .i64 ((Fm.rd y0 y1 y2).slot : Int), .int .i64 ((Fm.rd y0 y1 y2).gen : Int), .int .u32 ((Fm.rd y0 y1 y2).call : Int), .int .i64 ((Fm.rd y0 y1 y2).tr : Int), .bool (Fm.rd y0 y1 y2).sure, .bool (Fm.rd y0 y1 y2).stream, .int .i64 ((Fm.rd y0 y1 y2).seq : Int), .int .u32 ((Fm.rd y0 y1 y2).value : Int)] 24)))
    have HY := Lib.hid (show (w5.alloc (.cells #[.int .i64 ((Fm.rd y0 y1 y2).kind : Int), .int .i64 ((Fm.rd y0 y1 y2).client : Int), .int .i64 ((Fm.rd y0 y1 y2).service : Int), .int .i64 ((Fm.rd y0 y1 y2).slot : Int), .int .i64 ((Fm.rd y0 y1 y2).gen : Int), .int .u32 ((Fm.rd y0 y1 y2).call : Int), .int .i64 ((Fm.rd y0 y1 y2).tr : Int), .bool (Fm.rd y0 y1 y2).sure, .bool (Fm.rd y0 y1 y2).stream, .int .i64 ((Fm.rd y0 y1 y2).seq : Int), .int .u32 ((Fm.rd y0 y1 y2).value : Int)] 24)).heap[w5.heap.size]? = some (.cells #[.int .i64 ((Fm.rd y0 y1 y2).kind : Int), .int .i64 ((Fm.rd y0 y1 y2).client : Int), .int .i64 ((Fm.rd y0 y1 y2).service : Int), .int .i64 ((Fm.rd y0 y1 y2).slot : Int), .int .i64 ((Fm.rd y0 y1 y2).gen : Int), .int .u32 ((Fm.rd y0 y1 y2).call : Int), .int .i64 ((Fm.rd y0 y1 y2).tr : Int), .bool (Fm.rd y0 y1 y2).sure, .bool (Fm.rd y0 y1 y2).stream, .int .i64 ((Fm.rd y0 y1 y2).seq : Int), .int .u32 ((Fm.rd y0 y1 y2).value : Int)] 24 (0, 0)) from heap_alloc_new _ _)
    clear hb hE hA
    obtain ⟨p0, p1, p2⟩ := word_cells HA3.out.asks
    go_wp2_with fail
    refine (fget2_any y0 y1 y2 HA3.out.s0 HA3.out.s1 HA3.out.s2 _).mono ?_
    rintro e w6 ⟨hE, hb⟩
    obtain rfl := hE.1 hT
    clear p0 p1 p2 hE
    have HA4 := Lib.hid ((HA3.out.kept hb).kept (below_box w6 (.cells #[.int .i64 ((Fm.rd y0 y1 y2).kind : Int), .int .i64 ((Fm.rd y0 y1 y2).client : Int), .int .i64 ((Fm.rd y0 y1 y2).service : Int), .int .i64 ((Fm.rd y0 y1 y2).slot : Int), .int .i64 ((Fm.rd y0 y1 y2).gen : Int), .int .u32 ((Fm.rd y0 y1 y2).call : Int), .int .i64 ((Fm.rd y0 y1 y2).tr : Int), .bool (Fm.rd y0 y1 y2).sure, .bool (Fm.rd y0 y1 y2).stream, .int .i64 ((Fm.rd y0 y1 y2).seq : Int), .int .u32 ((Fm.rd y0 y1 y2).value : Int)] 24)))
    have HY4 := Lib.hid (keep1 (keep HY.out hb) (.cells #[.int .i64 ((Fm.rd y0 y1 y2).kind : Int), .int .i64 ((Fm.rd y0 y1 y2).client : Int), .int .i64 ((Fm.rd y0 y1 y2).service : Int), .int .i64 ((Fm.rd y0 y1 y2).slot : Int), .int .i64 ((Fm.rd y0 y1 y2).gen : Int), .int .u32 ((Fm.rd y0 y1 y2).call : Int), .int .i64 ((Fm.rd y0 y1 y2).tr : Int), .bool (Fm.rd y0 y1 y2).sure, .bool (Fm.rd y0 y1 y2).stream, .int .i64 ((Fm.rd y0 y1 y2).seq : Int), .int .u32 ((Fm.rd y0 y1 y2).value : Int)] 24))
    have HZ4 := Lib.hid (show (w6.alloc (.cells #[.int .i64 ((Fm.rd y0 y1 y2).kind : Int), .int .i64 ((Fm.rd y0 y1 y2).client : Int), .int .i64 ((Fm.rd y0 y1 y2).service : Int), .int .i64 ((Fm.rd y0 y1 y2).slot : Int), .int .i64 ((Fm.rd y0 y1 y2).gen : Int), .int .u32 ((Fm.rd y0 y1 y2).call : Int), .int .i64 ((Fm.rd y0 y1 y2).tr : Int), .bool (Fm.rd y0 y1 y2).sure, .bool (Fm.rd y0 y1 y2).stream, .int .i64 ((Fm.rd y0 y1 y2).seq : Int), .int .u32 ((Fm.rd y0 y1 y2).value : Int)] 24)).heap[w6.heap.size]? = some (.cells #[.int .i64 ((Fm.rd y0 y1 y2).kind : Int), .int .i64 ((Fm.rd y0 y1 y2).client : Int), .int .i64 ((Fm.rd y0 y1 y2).service : Int), .int .i64 ((Fm.rd y0 y1 y2).slot : Int), .int .i64 ((Fm.rd y0 y1 y2).gen : Int), .int .u32 ((Fm.rd y0 y1 y2).call : Int), .int .i64 ((Fm.rd y0 y1 y2).tr : Int), .bool (Fm.rd y0 y1 y2).sure, .bool (Fm.rd y0 y1 y2).stream, .int .i64 ((Fm.rd y0 y1 y2).seq : Int), .int .u32 ((Fm.rd y0 y1 y2).value : Int)] 24 (0, 0)) from heap_alloc_new _ _)
    clear hb HA3 HY
    go_wp2_with fail
    refine (awake_any _ HA4.out.lay).mono ?_
    rintro e w7 ⟨rfl, hb⟩
    have hY := keep HY4.out hb
    have hZ := keep HZ4.out hb
    have HB := Lib.hid (on HA4.out.below hb)
    clear hb HA4 HY4 HZ4
    obtain ⟨x0, x1, x2, x3, x4, x5, x6, x7, x8, x9, x10⟩ := frame_cells hY
    obtain ⟨z0, z1, z2, z3, z4, z5, z6, z7, z8, z9, z10⟩ := frame_cells hZ
    clear hY hZ
    go_wp2_with fail
    go_ret
    exact ⟨ret_bool (by simp), HB.out⟩
  · obtain rfl := hE.2 hT
    have HA3 := Lib.hid ((hA.out.kept hb).kept (below_box w5 (.cells #[.int .i64 0, .int .i64 0, .int .i64 0, .int .i64 0, .int .i64 0, .int .u32 0, .int .i64 0, .bool false, .bool false, .int .i64 0, .int .u32 0] 24)))
    have HY := Lib.hid (show (w5.alloc (.cells #[.int .i64 0, .int .i64 0, .int .i64 0, .int .i64 0, .int .i64 0, .int .u32 0, .int .i64 0, .bool false, .bool false, .int .i64 0, .int .u32 0] 24)).heap[w5.heap.size]? = some (.cells #[.int .i64 0, .int .i64 0, .int .i64 0, .int .i64 0, .int .i64 0, .int .u32 0, .int .i64 0, .bool false, .bool false, .int .i64 0, .int .u32 0] 24 (0, 0)) from heap_alloc_new _ _)
    clear hb hE hA
    obtain ⟨p0, p1, p2⟩ := word_cells HA3.out.asks
    go_wp2_with fail
    refine (fget2_any y0 y1 y2 HA3.out.s0 HA3.out.s1 HA3.out.s2 _).mono ?_
    rintro e w6 ⟨hE, hb⟩
    obtain rfl := hE.2 hT
    clear p0 p1 p2 hE
    have HA4 := Lib.hid ((HA3.out.kept hb).kept (below_box w6 (.cells #[.int .i64 0, .int .i64 0, .int .i64 0, .int .i64 0, .int .i64 0, .int .u32 0, .int .i64 0, .bool false, .bool false, .int .i64 0, .int .u32 0] 24)))
    have HY4 := Lib.hid (keep1 (keep HY.out hb) (.cells #[.int .i64 0, .int .i64 0, .int .i64 0, .int .i64 0, .int .i64 0, .int .u32 0, .int .i64 0, .bool false, .bool false, .int .i64 0, .int .u32 0] 24))
    have HZ4 := Lib.hid (show (w6.alloc (.cells #[.int .i64 0, .int .i64 0, .int .i64 0, .int .i64 0, .int .i64 0, .int .u32 0, .int .i64 0, .bool false, .bool false, .int .i64 0, .int .u32 0] 24)).heap[w6.heap.size]? = some (.cells #[.int .i64 0, .int .i64 0, .int .i64 0, .int .i64 0, .int .i64 0, .int .u32 0, .int .i64 0, .bool false, .bool false, .int .i64 0, .int .u32 0] 24 (0, 0)) from heap_alloc_new _ _)
    clear hb HA3 HY
    go_wp2_with fail
    refine (awake_any _ HA4.out.lay).mono ?_
    rintro e w7 ⟨rfl, hb⟩
    have hY := keep HY4.out hb
    have hZ := keep HZ4.out hb
    have HB := Lib.hid (on HA4.out.below hb)
    clear hb HA4 HY4 HZ4
    obtain ⟨x0, x1, x2, x3, x4, x5, x6, x7, x8, x9, x10⟩ := frame_cells hY
    obtain ⟨z0, z1, z2, z3, z4, z5, z6, z7, z8, z9, z10⟩ := frame_cells hZ
    clear hY hZ
    go_wp2_with fail
    go_ret
    exact ⟨ret_bool (by simp), HB.out⟩

end Go.Proofs.YtcpgigmnmlmpjaaDoor
