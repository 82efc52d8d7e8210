/- The contract of route's Order: those below room, by their load, then their place. -/
import Derived.Test.YtdjbmpchaedefaaRtB
import Derived.Test.YtdjbmpchaedefaaRw2
import Derived.Test.YtdjbmpchaedefaaSrtLayI
namespace Go.Proofs.Ytdjbmpchaedefaa
open Go.RowKit Go.Sort Go.Shelf

theorem Try.itemsInt : Item1 Try.prog 22 3 := .of (z := .int .i64 0) (b := 8) Try.underlying22 (by kernel_rfl) (by decide) rfl

namespace Rt
/-- Places, as they lie in a row. -/
def items (L : List Nat) : List Value := L.map fun (i : Nat) => Value.int .i64 (i : Int)
theorem items_length (L : List Nat) : (items L).length = L.length := by simp [items]
/-- Places below n, as the sort takes them. -/
def fins (n : Nat) (L : List Nat) (h : ∀ i ∈ L, i < n) : Array (Fin n) := (L.attach.map fun x => (⟨x.1, h x.1 x.2⟩ : Fin n)).toArray
theorem fins_size (n : Nat) (L : List Nat) (h : ∀ i ∈ L, i < n) : (fins n L h).size = L.length := by simp [fins]
theorem fins_list (n : Nat) (L : List Nat) (h : ∀ i ∈ L, i < n) : (fins n L h).toList.map (·.1) = L := by
  simp [fins, List.map_map, Function.comp_def]
theorem fins_at (n : Nat) [Inhabited (Fin n)] (L : List Nat) (h : ∀ i ∈ L, i < n) (j : Nat) (hj : j < L.length) : (fins n L h)[j]!.1 = L[j] := by
  have hs : j < (fins n L h).size := by rw [fins_size]; exact hj
  rw [getElem!_pos _ j hs]
  simp [fins]
def enc (n : Nat) (i : Fin n) : Value := .int .i64 (i.1 : Int)
def cf (X : Nat → Int) (n : Nat) (a b : Fin n) : Int := cmp X a.1 b.1
theorem ltOf_cf (X : Nat → Int) (n : Nat) (a b : Fin n) : ltOf (cf X n) a b = true ↔ lt X a.1 b.1 := by
  unfold ltOf cf
  rw [decide_eq_true_iff]
  exact cmp_lt X a.1 b.1
theorem ltOf_cf_no (X : Nat → Int) (n : Nat) (a b : Fin n) : ltOf (cf X n) a b = false ↔ ¬lt X a.1 b.1 := by
  rw [← ltOf_cf X n, Bool.not_eq_true]
theorem swo (X : Nat → Int) (n : Nat) : SWO (ltOf (cf X n)) where
  irrefl x := by rw [ltOf_cf_no]; exact lt_irrefl X x.1
  trans x y z h1 h2 := by rw [ltOf_cf] at *; exact lt_trans h1 h2
  ntrans x y z h1 h2 := by rw [ltOf_cf_no] at *; exact le_trans h2 h1
theorem rest_sortWorld {α : Type} [Inhabited α] (enc : α → Value) (w : World) (blk off n : Nat) (d : Array α) (os : Array Obj) : Rest (fun k => k = blk) w (sortWorld enc w blk off n d os) := by
  refine ⟨rfl, rfl, rfl, ?_, fun k hk hn => ?_⟩
  · simp [sortWorld, Go.Sort.grow, putRow, mapBlock, Go.Sort.ahead]
  · simp only [sortWorld, Go.Sort.grow, putRow, mapBlock, Go.Sort.ahead]
    rw [Array.getElem?_append_left (by simpa using hk), Array.getElem?_modify, if_neg (fun e => hn e.symm)]
/-- What the sort leaves, as a list of places. -/
theorem sorted_of {X : Nat → Int} {n : Nat} [Inhabited (Fin n)] {L : List Nat} (h : ∀ i ∈ L, i < n) (hnd : L.Nodup) {d' : Array (Fin n)} (hp : PermIn 0 (fins n L h).size (fins n L h) d') (hs : SortedIn (ltOf (cf X n)) 0 (fins n L h).size d') :
    (d'.toList.map (·.1)).Perm L ∧ (d'.toList.map (·.1)).Pairwise (lt X) := by
  obtain ⟨hsz, -, hperm⟩ := hp
  have e1 : d'.extract 0 (fins n L h).size = d' := by rw [← hsz]; exact Array.extract_size
  rw [e1, Array.extract_size] at hperm
  have hpl : (d'.toList.map (·.1)).Perm L := by
    have := hperm.map (·.1)
    rwa [fins_list] at this
  refine ⟨hpl, ?_⟩
  have hnd' := hpl.nodup_iff.2 hnd
  rw [List.pairwise_iff_getElem]
  intro i j hi hj hij
  have hi' : i < d'.size := by simpa using hi
  have hj' : j < d'.size := by simpa using hj
  have hk := hs i j (Nat.zero_le _) hij (by rw [← hsz]; exact hj')
  rw [ltOf_cf_no, getElem!_pos d' j hj', getElem!_pos d' i hi'] at hk
  simp only [List.getElem_map, Array.getElem_toList]
  refine lt_or hk (fun e => ?_)
  have hne := List.pairwise_iff_getElem.1 hnd' i j hi hj hij
  simp only [List.getElem_map, Array.getElem_toList] at hne
  exact hne e
end Rt

theorem enters_who : ∀ args w, (callFunc 14 args).run Try.prog w = .ok (.enter 14 args) w := enters_of Try.func14 (by kernel_rfl) rfl

set_option maxHeartbeats 1000000 in
/-- A row of places is sorted by who is ahead. -/
theorem rtsort_any {X : Nat → Int} {a : Option Addr} {n c B : Nat} (w : World) (hB : w.heap[B]? = some (.cells #[.slice a n c] 22 (0, 0))) (hN : Nums w a n X) {L : List Nat} (hL : ∀ i ∈ L, i < n) (hnd : L.Nodup) (hn : n ≤ 1000000) (hLn : L.length ≤ n)
    {sp : Option Addr} {cp : Nat} (hr : Nl w 3 sp cp (Rt.items L)) (hd : 0 < L.length → ∀ k o, sp = some ⟨k, o, none⟩ → k ≠ B ∧ ∀ o', a ≠ some ⟨k, o', none⟩) :
    Calls Try.prog 11 #[.slice sp L.length cp, .func (.func 14) #[] #[.pointer (some ⟨B, 0, none⟩)]] w fun e w' =>
      e = .returned (.tuple #[]) ∧ ∃ l : List Nat, l.Perm L ∧ l.Pairwise (Rt.lt X) ∧ Nums w' sp l.length (fun i => ((l.getD i 0 : Nat) : Int)) ∧ Rest (fun k => ∃ o, sp = some ⟨k, o, none⟩) w w' := by
  by_cases h0 : L.length = 0
  · obtain rfl : L = [] := List.length_eq_zero_iff.1 h0
    refine (AnyF.slices_SortFunc_none (P := Try.prog) (ρ := Try.sortInt_ren) { Try.sortInt with } sp cp (.func (.func 14) #[] #[.pointer (some ⟨B, 0, none⟩)]) w).mono ?_
    rintro e w' ⟨rfl, rfl⟩
    exact ⟨rfl, [], .nil, .nil, Nums.none_ _ _ _, Rest.refl _ _⟩
  · obtain ⟨g, off, rfl, hrow⟩ := hr.some_ (by rw [Rt.items_length]; omega)
    obtain ⟨hgB, hga⟩ := hd (by omega) g off rfl
    have hn0 : 0 < n := by omega
    haveI : Inhabited (Fin n) := ⟨⟨0, hn0⟩⟩
    obtain ⟨ga, oa, rfl, hc⟩ := hN.at_ hn0
    have hgga : ga ≠ g := fun e => hga oa (by rw [e])
    have hH : Holds (Rt.enc n) w g off (Rt.fins n L hL) := fun j hj => by
      rw [Rt.fins_size] at hj
      obtain ⟨cur, hg, -⟩ := hrow.block
      refine ⟨hrow.cell ?_, frozen_of_row _ _ _ _ _ hg⟩
      unfold Rt.enc
      rw [Rt.fins_at n L hL j hj]
      simp [Rt.items, hj]
    have hcmp : CmpLays1 Try.prog 14 #[.pointer (some ⟨B, 0, none⟩)] (Rt.enc n) (Rt.cf X n) g off (Rt.fins n L hL).size w := fun m os dk _ x y => by
      have hR := Rt.rest_sortWorld (Rt.enc n) w g off m dk os
      have hcell : ∀ i, i < n → (sortWorld (Rt.enc n) w g off m dk os).cell? ⟨ga, oa + i, none⟩ = some (.int .i64 (X i)) := fun i hi =>
        (World.cell?_of_block (hR.block ga (block_lt_of_cell (hc i hi)) hgga)).trans (hc i hi)
      exact rtwho_any _ (cell_of_row _ _ _ _ _ _ ((hR.block B (lt_of_block hB) (fun e => hgB e.symm)).trans hB)) (hcell x.1 x.2) (hcell y.1 y.2) x.2 y.2
    have hlen : (Rt.fins n L hL).size = L.length := Rt.fins_size n L hL
    have hcall := Any.slices_SortFunc (P := Try.prog) (ρ := Try.sortInt_ren) Try.sortInt (Rt.enc n) (fun _ => rfl) (Rt.cf X n) (Rt.swo X n) 14 #[.pointer (some ⟨B, 0, none⟩)] g off cp (Rt.fins n L hL) w enters_who hcmp hH hrow.lt (by omega)
    rw [hlen] at hcall
    refine hcall.mono ?_
    rintro e w' ⟨rfl, d', m, os, hp, hs, rfl⟩
    have hsz : d'.size = L.length := hp.1.trans hlen
    have hs2 := Rt.sorted_of hL hnd (by rw [hlen]; exact hp) (by rw [hlen]; exact hs)
    have hH' := holds_sortWorld (Rt.enc n) w g off m (Rt.fins n L hL) d' os hrow.lt hH (hsz.trans hlen.symm)
    refine ⟨rfl, d'.toList.map (·.1), hs2.1, hs2.2, ?_, (Rt.rest_sortWorld (Rt.enc n) w g off m d' os).mono (fun i _ e => ⟨off, by rw [e]⟩)⟩
    have hat : ∀ i, i < (d'.toList.map (·.1)).length → ∃ hi : i < d'.size, (d'.toList.map (·.1)).getD i 0 = (d'[i]'hi).1 := fun i hi => by
      have hi' : i < d'.size := by simpa using hi
      exact ⟨hi', by simp [List.getD, hi']⟩
    refine ⟨fun _ => ⟨g, off, rfl, fun i hi => ?_⟩, fun i hi => ?_, fun i hi => ?_⟩
    · obtain ⟨hi', e⟩ := hat i hi
      rw [e, (hH' i hi').1, getElem!_pos d' i hi']
      rfl
    · omega
    · obtain ⟨hi', e⟩ := hat i hi
      have := (d'[i]'hi').2
      simp only [e]
      omega
end Go.Proofs.Ytdjbmpchaedefaa
