/- The contract of route's Order: those below room, by their load, then their place. -/
import Derived.Test.YtdjbmpchaedefaaRtO
import Derived.Deep.LoopGhost
namespace Go.Proofs.Ytdjbmpchaedefaa
open Go.RowKit Go.Sort

theorem Rt.items_more (L : List Nat) (k : Nat) : Rt.items (L ++ [k]) = Rt.items L ++ [.int .i64 (k : Int)] := by simp [Rt.items]

set_option maxHeartbeats 2000000 in
/-- Order. -/
theorem rtorder_any {X : Nat → Int} {a : Option Addr} {n c : Nat} (room : Int) (w : World) (h : Nums w a n X) (hn : n ≤ 1000000) :
    Calls Try.prog 8 #[.slice a n c, .int .i64 room] w fun e w' => ∃ (l : List Nat) (sp : Option Addr) (cp : Nat), e = .returned (.slice sp l.length cp) ∧ Rt.Sorted X room n l ∧ Nums w' sp l.length (fun i => ((l.getD i 0 : Nat) : Int)) ∧ (∀ k o, sp = some ⟨k, o, none⟩ → w.heap.size ≤ k) ∧ Below w.heap.size w w' := by
  have HN := Lib.hid h
  have HA := Lib.hid (fun i (g o : Nat) (_ : i < n) (e : a = some ⟨g, o, none⟩) => show g < w.heap.size by
    obtain ⟨g', o', e', hc⟩ := h.at_ (by omega)
    rw [e] at e'
    cases e'
    exact block_lt_of_cell (hc 0 (by omega)))
  clear h
  go_enter Try.func8, Try.ntmps8
  go_wp2_with fail
  go_loopg [5, 10] (1000000 : Nat) (fun g1 s5 s10 wx => ∃ (k : Nat) (sp : Option Addr) (cp : Nat), s5 = .slice sp (Rt.those X room k).length cp ∧ s10 = .int .i64 k ∧ k ≤ n ∧ 1000000 - k ≤ g1 ∧ Hid (Mk w wx 3 sp cp (Rt.items (Rt.those X room k))))
  case atStart => exact ⟨0, none, 0, rfl, rfl, by omega, by omega, Lib.hid (Mk.start (Rest.refl _ _) _)⟩
  case round =>
    obtain ⟨k, sp, cp, rfl, rfl, hkn, hg, HK⟩ := hrel
    by_cases hk : k < n
    · have hk' : (k : Int) < (n : Int) := by omega
      have hwk : IntKind.i64.wrap ((k : Int) + 1) = (k : Int) + 1 := by rw [IntKind.wrap_i64]; omega
      obtain ⟨g, o, rfl, hc⟩ := (HN.out.past HK.out.1 (fun _ _ _ => id)).at_ (by omega)
      have ck := hc k hk
      clear hc
      by_cases hr : X k < room
      · obtain ⟨sp', cp', w3, hrun, hk3⟩ := (HK.out.more (Rest.alloc (fun _ => False) wr (.cells #[.int .i64 (k : Int)] 3))).one (P := Try.prog) Try.itemsInt (by rw [Rt.items_length]; have := Rt.those_length X room k; omega) (v := .int .i64 (k : Int)) rfl (heap_alloc_new wr _) 22
        rw [Rt.items_length] at hrun
        rw [← Rt.items_more, ← Rt.those_yes hr] at hk3
        have hl : (Rt.those X room k).length + 1 = (Rt.those X room (k + 1)).length := by rw [Rt.those_yes hr]; simp
        rw [hl] at hrun
        have HK3 := Lib.hid hk3
        clear hk3 HK hl
        generalize X k = x at *
        go_wp2_with (at_builtin; refine wpList_append_run rfl _ _ 22 rfl rfl rfl hrun ?_)
        go_roundg (1000000 - (k + 1))
        case measure => omega
        case rel => exact ⟨k + 1, sp', cp', rfl, by go_num, by omega, by omega, HK3⟩
      · have hl := Rt.those_no hr
        have HL := Lib.hid hl
        clear hl
        generalize X k = x at *
        go_wp2_with fail
        go_roundg (1000000 - (k + 1))
        case measure => omega
        case rel => exact ⟨k + 1, sp, cp, by rw [HL.out], by go_num, by omega, by omega, by rw [HL.out]; exact HK⟩
    · have hk' : ¬(k : Int) < (n : Int) := by omega
      obtain rfl : k = n := by omega
      have HND := Lib.hid (Rt.those_nodup X room k)
      have HLE := Lib.hid (Rt.those_length X room k)
      have HME := Lib.hid (fun i (h : i ∈ Rt.those X room k) => (Rt.those_mem.1 h).1)
      go_wp2_with fail
      refine (rtahead_any a k c wr).mono ?_
      rintro e w1 ⟨rfl, rfl⟩
      have HK1 := Lib.hid (HK.out.more (Rest.alloc (fun _ => False) wr (.cells #[.slice a k c] 22)))
      have HB1 := Lib.hid (heap_alloc_new wr (.cells #[.slice a k c] 22 (0, 0)))
      have HSZ := Lib.hid (show ∀ g o, sp = some ⟨g, o, none⟩ → w.heap.size ≤ g ∧ g < wr.heap.size from fun g o e => by
        rcases HK.out.2 with ⟨e', -⟩ | ⟨g', o', e', hrow⟩
        · rw [e] at e'; cases e'
        · rw [e] at e'; cases e'; exact ⟨hrow.from_, hrow.lt⟩)
      have hrs : Rest (fun _ => False) wr (wr.alloc (.cells #[.slice a k c] 22)) := Rest.alloc _ _ _
      have HS1 := Lib.hid hrs.size
      clear hrs HK
      generalize wr.alloc (.cells #[.slice a k c] 22) = w2 at HK1 HB1 HS1 ⊢
      generalize wr.heap.size = B at HB1 HSZ HS1 ⊢
      have hso := rtsort_any (X := X) w2 HB1.out (HN.out.past HK1.out.1 (fun _ _ _ => id)) HME.out HND.out hn HLE.out HK1.out.nl (fun h0 g o e => by
        have hz := HSZ.out g o e
        refine ⟨by omega, fun o' e' => ?_⟩
        have := HA.out 0 g o' (by have := HLE.out; omega) e'
        omega)
      have HB2 := Lib.hid (HK1.out.1)
      clear HN HA HND HLE HME HB1
      go_wp2_with fail
      refine hso.mono ?_
      rintro e w3 ⟨rfl, l, hp, hl, hnu, hre⟩
      have hlen := hp.length_eq
      have HR := Lib.hid (show Rt.Sorted X room k l from ⟨hp, hl⟩)
      have HNU := Lib.hid hnu
      have HBB := Lib.hid (show Below w.heap.size w w3 from (HB2.out.trans (o3 := fun i => w.heap.size ≤ i) hre (fun _ _ h => h.elim) (fun i _ ⟨o, e⟩ => (HSZ.out i o e).1)).below (Nat.le_refl _) (fun _ h => h))
      clear hp hl hnu hre hso HB2 HK1 HS1
      go_wp2_with fail
      go_ret
      exact ⟨l, sp, cp, by rw [hlen]; rfl, HR.out, HNU.out, fun g o e => (HSZ.out g o e).1, HBB.out⟩
end Go.Proofs.Ytdjbmpchaedefaa
