/- How many alarms a wheel has. -/
import Derived.Test.YtcjidobdbdfjlaaWhP
import Derived.Shelf.RegionOpen
namespace Go.Proofs.Ytcjidobdbdfjlaa
open Go.RowKit Go.Sort Go.Shelf

attribute [local go_sem] Oper.semAt_some

theorem Rest.book {own : Nat → Prop} {w W W' : World} {B : Nat} (h : Rest own w W) (k : Book B W W') (hB : w.heap.size ≤ B) : Rest own w W' :=
  ⟨k.os.trans h.os, k.tape.trans h.tape, k.output.trans h.output, Nat.le_trans h.size k.size, fun i hi ho => by
    have h1 := h.block i hi ho
    have h2 : W.heap[i]? = some (w.heap[i]) := h1.trans (Array.getElem?_eq_getElem hi)
    exact (k.block i _ h2 (.inl (by omega))).trans (Array.getElem?_eq_getElem hi).symm⟩

namespace Wh
/-- So many in these places. -/
def sumOf (F : Nat → List En) : List (Fin 50) → Nat
  | [] => 0
  | x :: r => (F x.val).length + sumOf F r
theorem sumOf_append (F : Nat → List En) (x : Fin 50) : ∀ pre, sumOf F (pre ++ [x]) = sumOf F pre + (F x.val).length
  | [] => by simp [sumOf]
  | y :: r => by simp only [List.cons_append, sumOf, sumOf_append F x r]; omega
theorem sumOf_le {F : Nat → List En} (h : ∀ q, (F q).length ≤ 300) : ∀ pre, sumOf F pre ≤ pre.length * 300
  | [] => by simp [sumOf]
  | x :: r => by have := h x.val; have := sumOf_le h r; simp only [sumOf, List.length_cons]; omega
theorem total_mono (F : Nat → List En) (n : Nat) : total F n ≤ total F (n + 1) := by simp [total]
theorem sumOf_upto (F : Nat → List En) : ∀ k, 2 + k ≤ 50 → sumOf F (upto (2 + k)) + total F 0 = total F (1 + k) + (F 49).length
  | 0, _ => by
    have : upto 2 = [⟨0, by decide⟩, ⟨49, by decide⟩] := by decide
    simp [this, sumOf, total]
    rfl
  | k + 1, h => by
    have ih := sumOf_upto F k (by omega)
    rw [show 2 + (k + 1) = (2 + k) + 1 by omega, upto_succ, sumOf_append, show 1 + (k + 1) = (1 + k) + 1 by omega]
    have hv : (nth (2 + k)).val = 1 + k := by
      unfold nth
      simp only
      rw [if_neg (by omega), if_neg (by omega), Nat.mod_eq_of_lt (by omega)]
      omega
    rw [hv]
    simp only [total] at ih ⊢
    omega
theorem sumOf_all (F : Nat → List En) : sumOf F (upto 50) = total F 50 := by
  have := sumOf_upto F 48 (by omega)
  simp only [show 2 + 48 = 50 from rfl, show 1 + 48 = 49 from rfl] at this
  have h0 : total F 0 = 0 := rfl
  rw [show total F 50 = total F 49 + (F 49).length from rfl]
  omega
end Wh

theorem keeps_drew (W : World) : KeepsOthers W W.drew := ⟨Nat.le_refl _, fun _ _ h _ => h⟩
theorem wlen_nil (w : World) : Calls Try.prog 13 #[.pointer none] w fun e w' => e = .returned (.int .i64 0) ∧ w = w' := by
  go_enter Try.func13, Try.ntmps13
  go_wp2
  go_ret
  exact ⟨rfl, rfl⟩

set_option maxRecDepth 100000 in
set_option maxHeartbeats 2000000 in
theorem wlen_in {B P : Nat} {w : World} {now : Int} {F : Nat → List En} {V : Nat → Value} {K : List Nat} (h : Whl B w P now F V K) (hl : ∀ q, (F q).length ≤ 300) :
    CallsIn Fence.wide 6 Try.prog 13 #[.pointer (some ⟨P, 0, none⟩)] w fun e w' => e = .returned (.int .i64 (Wh.total F 50 : Nat)) ∧ Rest (fun _ => False) w w' := by
  refine callsIn_of_wp_marks Try.func13 rfl trivial ?_ rfl
  simp only [Try.ntmps13, List.size_toArray, List.length_cons, List.length_nil, Nat.reduceAdd, Nat.reduceSub, Array.replicate_succ, Array.replicate_zero, List.push_toArray, List.append_toArray, List.nil_append, List.cons_append]
  gi_wp2
  have hb := heap_alloc_new w (.cells #[.int .i64 0] 3)
  have hr := Rest.alloc (fun _ => False) w (.cells #[.int .i64 0] 3)
  have hsz : (w.alloc (.cells #[.int .i64 0] 3)).heap.size = w.heap.size + 1 := by simp
  generalize w.alloc (.cells #[.int .i64 0] 3) = w1 at hb hr hsz ⊢
  refine range_bound (w := w1) rfl (by decide) (gf := 28) (bs := #[.pointer (some ⟨P, 0, none⟩)]) rfl trivial (enters_of Try.func28 (by kernel_rfl) rfl)
    (places_iter Fence.wide _ trivial rfl (by decide) P) (fun _ => rfl)
    (fun pre W => W.heap[w.heap.size]? = some (.cells #[.int .i64 (Wh.sumOf F pre : Nat)] 3 (0, 0)) ∧ Rest (fun _ => False) w W) (fun _ _ => False)
    (fun s W W' hk hs => ⟨hk.block _ _ hs.1 (.inl (by omega)), hs.2.book hk (by omega)⟩) (fun _ _ _ _ hs => hs) ⟨hb, hr⟩
    (fun x => { tmps := #[.pointer (some ⟨P, 0, none⟩), undef, .int .i64 0, .pointer (some ⟨w.heap.size, 0, none⟩), .pointer (some ⟨P, x.val + 1, none⟩), .pointer (some ⟨P, 0, none⟩), .bool false, .pointer (some ⟨P, 0, none⟩), .func (.func 28) #[.pointer (some ⟨P, 0, none⟩)] #[], .pointer (some ⟨P, x.val + 1, none⟩), undef, undef, undef, undef, undef, undef, undef], defers := [] }) ?assign ?body ?done ?stop
  case assign =>
    intro l x W K hK
    dsimp only [placeAt]
    gi_wp2
    exact hK
  case body =>
    rintro l pre x W ⟨hc, hR⟩ hlen
    have hW := h.past hR
    obtain ⟨a, c, hv⟩ := (hW.rows x.val x.isLt).shape
    have cP := hW.cell (q := x.val) x.isLt
    rw [hv] at cP
    have c0 : W.cell? ⟨w.heap.size, 0, none⟩ = some (.int .i64 (Wh.sumOf F pre : Nat)) := one_cell hc
    have f0 : W.frozen? ⟨w.heap.size, 0, none⟩ = false := frozen_of_row _ _ _ _ _ hc
    have hs := Wh.sumOf_le hl pre
    have hx := hl x.val
    have hap := Wh.sumOf_append F x pre
    have hwr : IntKind.i64.wrap ((Wh.sumOf F pre : Nat) + ((F x.val).length : Nat) : Int) = (Wh.sumOf F pre : Nat) + ((F x.val).length : Nat) := by rw [IntKind.wrap_i64]; omega
    have HE : Hid (KeepsOthers W (W.setCell ⟨w.heap.size, 0, none⟩ (.int .i64 ((Wh.sumOf F pre : Nat) + ((F x.val).length : Nat) : Int))) ∧ (W.setCell ⟨w.heap.size, 0, none⟩ (.int .i64 ((Wh.sumOf F pre : Nat) + ((F x.val).length : Nat) : Int))).heap[w.heap.size]? = some (.cells #[.int .i64 (Wh.sumOf F (pre ++ [x]) : Nat)] 3 (0, 0)) ∧ Rest (fun _ => False) w (W.setCell ⟨w.heap.size, 0, none⟩ (.int .i64 ((Wh.sumOf F pre : Nat) + ((F x.val).length : Nat) : Int)))) := by
      refine ⟨KeepsOthers.setCell _ _ _, ?_, hR.trans (o3 := fun _ => False) (Rest.setCell (own := fun k => k = w.heap.size) W ⟨w.heap.size, 0, none⟩ _ rfl) (fun _ _ => id) (fun i hi e => by omega)⟩
      have := heap_setCell_same W w.heap.size 0 _ _ (.int .i64 ((Wh.sumOf F pre : Nat) + ((F x.val).length : Nat) : Int)) hc
      rw [this, hap]
      simp
    have mixed : Try.prog.follows .mixedOrders = true := by kernel_rfl
    clear hW hv
    gi_wp2
    gi_region_o
    all_goals gi_wp2
    all_goals first | exact ⟨HE.out.1, HE.out.2.1, HE.out.2.2⟩ | exact ⟨HE.out.1.trans (keeps_drew _), HE.out.2.1, HE.out.2.2.trans (o3 := fun _ => False) (Rest.drew (fun _ => False) _) (fun _ _ => id) (fun _ _ => id)⟩
  case done =>
    rintro D ys W hD rfl ⟨hc, hR⟩ hK
    have c0 : W.cell? ⟨w.heap.size, 0, none⟩ = some (.int .i64 (Wh.sumOf F (Wh.upto 50) : Nat)) := one_cell hc
    gi_wp2
    refine ⟨by simp, .inl ⟨_, _, rfl, run_takeDeferred hK, ?_⟩⟩
    exact ⟨_, results_tmp rfl _ _ _, by rw [Wh.sumOf_all]; rfl, hR.book (Book.put hK hD rfl _) (by omega)⟩
  case stop =>
    rintro D pre W _ h _
    exact h.elim

theorem wlen_any {B P : Nat} {w : World} {now : Int} {F : Nat → List En} {V : Nat → Value} {K : List Nat} (h : Whl B w P now F V K) (hl : ∀ q, (F q).length ≤ 300) :
    Calls Try.prog 13 #[.pointer (some ⟨P, 0, none⟩)] w fun e w' => e = .returned (.int .i64 (Wh.total F 50 : Nat)) ∧ Rest (fun _ => False) w w' := callsIn_wide.1 (wlen_in h hl)
end Go.Proofs.Ytcjidobdbdfjlaa
