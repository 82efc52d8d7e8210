/- Due's All: what is sorted; the walk. -/
import Derived.Test.YtfjhknmpolhfeaaDueM
namespace Go.Proofs.Ytfjhknmpolhfeaa
open Go.RowKit Go.Sort

theorem arr_at (q : List En) (i : Nat) : q.toArray[i]! = Hp.e q i := by
  by_cases h : i < q.length
  · rw [Hp.e_in h]; simp [h]
  · simp [Hp.e, List.getD, h]
/-- A queue's row, as the sort asks for it. -/
theorem holds_of_row {w : World} {B g off cap : Nat} {t : TypeId} {q : List En} (h : RowK w B t 6 g off q.length cap (flat q)) : HoldsK Hp.enc 6 w g off q.toArray := by
  intro j hj
  rw [size_flatK] at hj
  rw [get_flatK _ _ _ _ hj, arr_at]
  have hj' : j < q.length * 6 := by simpa using hj
  obtain ⟨i, c, hi, hc, rfl⟩ : ∃ i c, i < q.length ∧ c < 6 ∧ j = i * 6 + c := ⟨j / 6, j % 6, by omega, by omega, by omega⟩
  rw [show (i * 6 + c) / 6 = i by omega, show (i * 6 + c) % 6 = c by omega]
  obtain ⟨cur, hg, -⟩ := h.block
  refine ⟨?_, frozen_of_row _ _ _ _ _ hg⟩
  have hlen : c < (Hp.enc (Hp.e q i)).length := hc
  exact h.cell (by rw [flat_at _ _ _ hi hc, List.getElem?_eq_getElem hlen]; simp [hlen])
theorem rest_sortWorld (w : World) (blk off n : Nat) (d : Array En) (os : Array Obj) : Rest (fun k => k = blk) w (sortWorldK Hp.enc 6 w blk off n d os) := by
  refine ⟨rfl, rfl, rfl, ?_, fun k hk hn => ?_⟩
  · simp [sortWorldK, Go.Sort.grow, putRowK, putRow, mapBlock]
  · simp only [sortWorldK, Go.Sort.grow, putRowK, putRow, mapBlock]
    rw [Array.getElem?_append_left (by simpa using hk), Array.getElem?_modify, if_neg (fun e => hn e.symm)]
    rfl
/-- The sorted entries' cells. -/
structure Sorted (w : World) (g off n : Nat) (d : Nat → En) : Prop where
  lt : g < w.heap.size
  cell : ∀ i, i < n → ∀ c, c < 6 → w.cell? ⟨g, off + i * 6 + c, none⟩ = (Hp.enc (d i))[c]?
  ord : ∀ i j, i < j → j < n → (d i).t ≤ (d j).t
theorem Sorted.past {w w' : World} {g off n : Nat} {d : Nat → En} (h : Sorted w g off n d) (hr : Rest (fun _ => False) w w') : Sorted w' g off n d :=
  ⟨Nat.lt_of_lt_of_le h.lt hr.size, fun i hi c hc => by rw [World.cell?_of_block (hr.block _ h.lt (fun x => x))]; exact h.cell i hi c hc, h.ord⟩
theorem sorted_of {w : World} {g off n : Nat} {d d' : Array En} {os : Array Obj} (hH : HoldsK Hp.enc 6 w g off d) (hb : g < w.heap.size) (hp : PermIn 0 d.size d d') (hs : SortedIn (ltOf Hp.cmpE) 0 d.size d') :
    Sorted (sortWorldK Hp.enc 6 w g off n d' os) g off d.size (fun i => d'[i]!) := by
  have hsz : d'.size = d.size := hp.1
  have h := holdsK_sortWorldK_c Hp.enc 6 w g off d d' n os hH hb hsz
  refine ⟨Nat.lt_of_lt_of_le hb (size_sortWorldK_c Hp.enc 6 w g off n d' os), fun i hi c hc => ?_, fun i j hij hj => ?_⟩
  · rw [(h.cell (i := i) (c := c) (by omega) hc).1]
    have hlen : c < (Hp.enc d'[i]!).length := hc
    rw [List.getElem?_eq_getElem hlen]
    simp [hlen]
  · have := hs i j (Nat.zero_le _) hij hj
    rw [Hp.ltOf_eq, En.not_lt] at this
    omega

theorem Try.infoAlm : (Try.prog.info? 31).map (fun i => (i.zero, i.size, i.bytes)) = some (some (.agg #[.int .i64 0, .int .i64 0, .int .i64 0, .int .i64 0, .int .i64 0]), 5, 40) := by kernel_rfl
def none5 : Array Value := #[.int .i64 0, .int .i64 0, .int .i64 0, .int .i64 0, .int .i64 0]
theorem make_alarms (n : Nat) (h1 : n ≤ 1000) (w : World) :
    (Instr.makeSlice 28 (.int .i64 (n : Int)) (.int .i64 (n : Int))).run Try.prog w = .ok (.slice (some ⟨w.heap.size, 0, none⟩) n n) (w.alloc (.cells (madeCells none5 (n * 5)) 31)) := by
  obtain ⟨i0, hinf, hz0, hz1, hz2⟩ := info_parts Try.infoAlm
  have h := run_make (P := Try.prog) w 28 31 i0 _ Try.underlying28 hinf hz0 .i64 .i64 n n (by omega) (by omega) (by rw [hz2]; omega) (by omega)
  rw [h, hz1]
  simp [none5, Value.cells]

/-- What All tells: so many, in the order of their times. -/
def Tells (w' : World) (e : Ending) (n : Nat) : Prop := ∃ a c, e = .returned (.slice a n c) ∧ (0 < n → ∃ g o, a = some ⟨g, o, none⟩ ∧ ∃ T : Nat → Int, (∀ i, i < n → w'.cell? ⟨g, o + i * 5, none⟩ = some (.int .i64 (T i))) ∧ ∀ i j, i < j → j < n → T i ≤ T j)
/-- Those that were told already. -/
def toldTo (d : Nat → En) (k : Nat) : Nat → Nat → Value := fun a b => if a < k then (Hp.enc (d a)).getD b (.int .i64 0) else .int .i64 0

theorem Sorted.kept {w w' : World} {g off n G : Nat} {d : Nat → En} (h : Sorted w g off n d) (hr : Rest (fun k => k = G) w w') (hg : g ≠ G) : Sorted w' g off n d :=
  ⟨Nat.lt_of_lt_of_le h.lt hr.size, fun i hi c hc => by rw [World.cell?_of_block (hr.block _ h.lt hg)]; exact h.cell i hi c hc, h.ord⟩
/-- One more is told. -/
theorem told_next {w : World} {G n k : Nat} {d : Nat → En} {x1 x2 x3 x4 x5 x6 : Int} (h : Items w G n 5 31 (toldTo d k)) (hk : k < n) (hd : d k = ⟨x1, x2, x3, x4, x5, x6⟩) :
    Items (((((w.setCell ⟨G, k * 5, none⟩ (.int .i64 x1)).setCell ⟨G, k * 5 + 1, none⟩ (.int .i64 x2)).setCell ⟨G, k * 5 + 2, none⟩ (.int .i64 x3)).setCell ⟨G, k * 5 + 3, none⟩ (.int .i64 x4)).setCell ⟨G, k * 5 + 4, none⟩ (.int .i64 x5)) G n 5 31 (toldTo d (k + 1)) ∧
    Rest (fun i => i = G) w (((((w.setCell ⟨G, k * 5, none⟩ (.int .i64 x1)).setCell ⟨G, k * 5 + 1, none⟩ (.int .i64 x2)).setCell ⟨G, k * 5 + 2, none⟩ (.int .i64 x3)).setCell ⟨G, k * 5 + 3, none⟩ (.int .i64 x4)).setCell ⟨G, k * 5 + 4, none⟩ (.int .i64 x5)) := by
  have h1 := h.set1 (i := k) (j := 0) hk (by omega) (.int .i64 x1)
  have h2 := h1.set1 (i := k) (j := 1) hk (by omega) (.int .i64 x2)
  have h3 := h2.set1 (i := k) (j := 2) hk (by omega) (.int .i64 x3)
  have h4 := h3.set1 (i := k) (j := 3) hk (by omega) (.int .i64 x4)
  have h5 := h4.set1 (i := k) (j := 4) hk (by omega) (.int .i64 x5)
  have tr : ∀ {a b c : World}, Rest (fun k => k = G) a b → Rest (fun k => k = G) b c → Rest (fun k => k = G) a c := fun h k => h.trans (o3 := fun k => k = G) k (fun _ _ => id) (fun _ _ => id)
  refine ⟨h5.congr (fun a b _ hb => ?_), tr (tr (tr (tr (Rest.setCell _ _ _ rfl) (Rest.setCell _ _ _ rfl)) (Rest.setCell _ _ _ rfl)) (Rest.setCell _ _ _ rfl)) (Rest.setCell _ _ _ rfl)⟩
  unfold toldTo
  by_cases ha : a = k
  · subst ha
    rw [if_pos (show a < a + 1 by omega), hd]
    match b, hb with
    | 0, _ => simp [Hp.enc]
    | 1, _ => simp [Hp.enc]
    | 2, _ => simp [Hp.enc]
    | 3, _ => simp [Hp.enc]
    | 4, _ => simp [Hp.enc]
  · simp only [ha, false_and, if_false]
    by_cases hak : a < k
    · rw [if_pos hak, if_pos (by omega)]
    · rw [if_neg hak, if_neg (by omega)]

set_option maxHeartbeats 4000000 in
set_option maxRecDepth 100000 in
theorem dall_some {B P g off cap : Nat} {n : Int} {q : List En} (w : World) (h : Dq w B P g off cap n q) (hm : q.length ≤ 1000) :
    Calls Try.prog 11 #[.pointer (some ⟨P, 0, none⟩)] w fun e w' => Tells w' e q.length ∧ Rest (fun _ => False) w w' := by
  have c0 := h.cell
  have hcl := clone_q w h.row (by omega)
  have hmk := make_alarms q.length hm
  generalize hMC : madeCells none5 (q.length * 5) = mcs at hmk
  have HMC := Lib.hid hMC
  clear h hMC
  go_enter Try.func11, Try.ntmps11
  go_wp2_with fail
  refine hcl.mono ?_
  rintro e w2 ⟨g2, o2, c2, rfl, hrow2, hr2⟩
  have hs := sort_any g2 o2 c2 q.toArray w2 (holds_of_row hrow2) hrow2.lt (by simp; omega)
  have HH2 := Lib.hid (holds_of_row hrow2)
  have HL2 := Lib.hid (show w.heap.size ≤ g2 ∧ g2 < w2.heap.size from ⟨hrow2.from_, hrow2.lt⟩)
  have HR2 := Lib.hid hr2
  rw [List.size_toArray] at hs
  clear hcl hrow2 hr2
  go_wp2_with fail
  refine hs.mono ?_
  rintro e w3 ⟨rfl, d', m, os, hp, hso, rfl⟩
  have hsd := sorted_of (n := m) (os := os) HH2.out HL2.out.2 (by rw [List.size_toArray]; exact hp) (by rw [List.size_toArray]; exact hso)
  rw [List.size_toArray] at hsd
  have hr3 := HR2.out.trans (o3 := fun _ => False) (rest_sortWorld w2 g2 o2 m d' os) (fun _ _ => id) (fun i hi e => by have := HL2.out.1; omega)
  obtain ⟨D, hsd⟩ : ∃ D, Sorted (sortWorldK Hp.enc 6 w2 g2 o2 m d' os) g2 o2 q.length D := ⟨_, hsd⟩
  generalize sortWorldK Hp.enc 6 w2 g2 o2 m d' os = w3 at hsd hr3 ⊢
  have HSd := Lib.hid hsd
  have HR3 := Lib.hid hr3
  clear hs hp hso hsd hr3 HH2 HL2 HR2
  go_wp2_with fail
  have hit : Items (w3.alloc (.cells mcs 31)) w3.heap.size q.length 5 31 (toldTo D 0) := by
    have h1 := Items.made (w := w3) (K := q.length) (c := 5) (t := 31) (z := none5) rfl
    rw [HMC.out] at h1
    refine h1.congr (fun a b _ hb => ?_)
    unfold toldTo none5
    rw [if_neg (Nat.not_lt_zero _)]
    match b, hb with
    | 0, _ => rfl
    | 1, _ => rfl
    | 2, _ => rfl
    | 3, _ => rfl
    | 4, _ => rfl
  have hsa := HSd.out.past (Rest.alloc (fun _ => False) w3 (.cells mcs 31))
  have hra := HR3.out.trans (o3 := fun _ => False) (Rest.alloc (fun _ => False) w3 (.cells mcs 31)) (fun _ _ => id) (fun _ _ => id)
  have hG : w.heap.size ≤ w3.heap.size := HR3.out.size
  have hg3 : g2 ≠ w3.heap.size := by have := HSd.out.lt; omega
  generalize w3.alloc (.cells mcs 31) = w4 at hit hsa hra ⊢
  generalize w3.heap.size = G at hit hG hg3 ⊢
  have HI := Lib.hid hit
  have HSa := Lib.hid hsa
  have HRa := Lib.hid hra
  clear hit hsa hra HSd HR3 HMC
  go_loopg [21] (1000 : Nat) (fun g1 s21 wx => ∃ k : Nat, s21 = .int .i64 k ∧ k ≤ q.length ∧ 1000 - k ≤ g1 ∧ Hid (Items wx G q.length 5 31 (toldTo D k)) ∧ Hid (Sorted wx g2 o2 q.length D) ∧ Hid (Rest (fun _ => False) w wx))
  case atStart => exact ⟨0, rfl, by omega, by omega, HI, HSa, HRa⟩
  case round =>
    obtain ⟨k, rfl, hkl, hk1, HIk, HSk, HRk⟩ := hrel
    by_cases hk : k < q.length
    · have hk' : (k : Int) < ((q.length : Nat) : Int) := by omega
      have hwk : IntKind.i64.wrap ((k : Int) + 1) = (k : Int) + 1 := by rw [IntKind.wrap_i64]; omega
      obtain ⟨x1, x2, x3, x4, x5, x6, hDk⟩ : ∃ x1 x2 x3 x4 x5 x6, D k = ⟨x1, x2, x3, x4, x5, x6⟩ := ⟨_, _, _, _, _, _, rfl⟩
      have a0 := HSk.out.cell k hk 0 (by omega)
      have a1 := HSk.out.cell k hk 1 (by omega)
      have a2 := HSk.out.cell k hk 2 (by omega)
      have a3 := HSk.out.cell k hk 3 (by omega)
      have a4 := HSk.out.cell k hk 4 (by omega)
      have a5 := HSk.out.cell k hk 5 (by omega)
      rw [hDk] at a0 a1 a2 a3 a4 a5
      replace a0 : wr.cell? ⟨g2, o2 + k * 6, none⟩ = some (.int .i64 x1) := a0
      replace a1 : wr.cell? ⟨g2, o2 + k * 6 + 1, none⟩ = some (.int .i64 x2) := a1
      replace a2 : wr.cell? ⟨g2, o2 + k * 6 + 2, none⟩ = some (.int .i64 x3) := a2
      replace a3 : wr.cell? ⟨g2, o2 + k * 6 + 3, none⟩ = some (.int .i64 x4) := a3
      replace a4 : wr.cell? ⟨g2, o2 + k * 6 + 4, none⟩ = some (.int .i64 x5) := a4
      replace a5 : wr.cell? ⟨g2, o2 + k * 6 + 5, none⟩ = some (.int .i64 x6) := a5
      have hcell := fun j (hj : j < 5) (ob : Obj) => (World.cell?_of_block (a := ⟨G, k * 5 + j, none⟩) (Below.heap_alloc wr ob G HIk.out.lt)).trans (HIk.out.cell (i := k) (j := j) hk hj)
      have b0 := hcell 0 (by omega)
      have b1 := hcell 1 (by omega)
      have b2 := hcell 2 (by omega)
      have b3 := hcell 3 (by omega)
      have b4 := hcell 4 (by omega)
      simp only [Nat.add_zero] at b0
      have f0 := fun (ob : Obj) (j : Nat) => (World.frozen?_of_block (a := ⟨G, j, none⟩) (Below.heap_alloc wr ob G HIk.out.lt)).trans (HIk.out.free j)
      have HDk := Lib.hid hDk
      clear hcell hDk
      have hrs := Rest.alloc (fun _ => False) wr (.cells #[.int .i64 x1, .int .i64 x2, .int .i64 x3, .int .i64 x4, .int .i64 x5, .int .i64 x6] 47)
      have HIa := Lib.hid (HIk.out.kept (hrs.block _ HIk.out.lt (fun x => x)))
      obtain ⟨hin, hrn⟩ := told_next HIa.out hk HDk.out
      have HIn := Lib.hid hin
      have HSn := Lib.hid ((HSk.out.past hrs).kept hrn hg3)
      have HRn := Lib.hid ((HRk.out.trans (o3 := fun _ => False) hrs (fun _ _ => id) (fun _ _ => id)).trans (o3 := fun _ => False) hrn (fun _ _ => id) (fun i hi e => by omega))
      clear hrs hin hrn HIk HSk HRk HIa
      go_wp2_with fail
      go_roundg (1000 - (k + 1))
      case measure => omega
      case rel => exact ⟨k + 1, by go_num, by omega, by omega, HIn, HSn, HRn⟩
    · obtain rfl : k = q.length := by omega
      have HT := Lib.hid (show Tells wr (.returned (.slice (some ⟨G, 0, none⟩) q.length q.length)) q.length from
        ⟨_, _, rfl, fun _ => ⟨G, 0, rfl, fun i => (D i).t, fun i hi => by
          have := HIk.out.cell (i := i) (j := 0) hi (by omega)
          unfold toldTo at this
          rw [if_pos hi] at this
          rw [Nat.zero_add]
          exact this, HSk.out.ord⟩⟩)
      go_wp2
      go_ret
      exact ⟨HT.out, HRk.out⟩

theorem dall_any {B P : Nat} {n : Int} {q : List En} {L : Option Nat} (w : World) (h : Dz w B P n q L) (hm : q.length ≤ 1000) :
    Calls Try.prog 11 #[.pointer (some ⟨P, 0, none⟩)] w fun e w' => Tells w' e q.length ∧ Rest (fun _ => False) w w' := by
  rcases h with ⟨rfl, h1, rfl, h3⟩ | ⟨g, off, cap, rfl, h⟩
  · have c0 : w.cell? ⟨P, 0, none⟩ = some (.slice none 0 0) := by rw [cell_of_row _ _ _ _ _ _ h3]; rfl
    have hmk : ∀ w, Sem.run Try.prog (Instr.makeSlice 28 (.int .i64 0) (.int .i64 0)) w = .ok (.slice (some ⟨w.heap.size, 0, none⟩) 0 0) (w.alloc (.cells (madeCells none5 (0 * 5)) 31)) := make_alarms 0 (by omega)
    generalize madeCells none5 (0 * 5) = mcs at hmk
    clear h1 h3
    go_enter Try.func11, Try.ntmps11
    go_wp2_with fail
    refine (clone_nil _).mono ?_
    rintro e w2 ⟨rfl, rfl⟩
    go_wp2_with fail
    refine (sort_none _ _ _).mono ?_
    rintro e w2 ⟨rfl, rfl⟩
    go_wp2_with fail
    refine wp_loop_rounds 1 ?_
    rw [rounds_succ]
    go_wp2
    go_ret
    exact ⟨⟨_, _, rfl, fun h0 => absurd h0 (Nat.lt_irrefl _)⟩, Rest.alloc _ _ _⟩
  · exact dall_some w h hm
theorem du_all {w0 : World} {P : Nat} {n : Int} {g : List En} {K : List Nat} (w : World) (h : Du w0 w P n g K) (hm : g.length ≤ 1000) :
    Calls Try.prog 11 #[.pointer (some ⟨P, 0, none⟩)] w fun e w' => Tells w' e g.length ∧ Rest (fun _ => False) w w' := by
  obtain ⟨q, L, hz, hp, -⟩ := h.due
  rw [← hp.length_eq]
  exact dall_any w hz (by rw [hp.length_eq]; exact hm)
end Go.Proofs.Ytfjhknmpolhfeaa
