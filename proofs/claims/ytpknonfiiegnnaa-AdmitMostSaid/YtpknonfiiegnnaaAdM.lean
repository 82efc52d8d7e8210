/- How many calls go on to each of four services, as a function: one more, one less, all in all. -/
import Derived.Test.YtpknonfiiegnnaaRows
namespace Go.Proofs.Ytpknonfiiegnnaa

namespace Ad
/-- The nearest number from 0 to 64. -/
def cut (n : Int) : Int := max 0 (min n 64)
theorem cut_lo (n : Int) : 0 ≤ cut n := by unfold cut; omega
theorem cut_hi (n : Int) : cut n ≤ 64 := by unfold cut; omega
theorem cut_in {n : Int} (h : 0 ≤ n) (h' : n ≤ 64) : cut n = n := by unfold cut; omega

/-- All in all; those of the first services. -/
def sum (f : Nat → Int) : Int := f 0 + f 1 + f 2 + f 3
def part (f : Nat → Int) : Nat → Int
  | 0 => 0
  | i + 1 => part f i + f i
theorem part_all (f : Nat → Int) : part f 4 = sum f := by simp [part, sum]

/-- So many go on to one service. -/
def put (f : Nat → Int) (k : Nat) (v : Int) : Nat → Int := fun i => if i = k then v else f i
theorem put_at (f : Nat → Int) (k : Nat) (v : Int) : put f k v k = v := by simp [put]
theorem put_but (f : Nat → Int) {k i : Nat} (v : Int) (h : i ≠ k) : put f k v i = f i := by simp [put, h]
theorem sum_put (f : Nat → Int) {k : Nat} (v : Int) (h : k < 4) : sum (put f k v) = sum f - f k + v := by
  rcases (show k = 0 ∨ k = 1 ∨ k = 2 ∨ k = 3 by omega) with rfl | rfl | rfl | rfl <;> simp [sum, put] <;> omega
/-- None go on. -/
def zero : Nat → Int := fun _ => 0

/-- To each service at least none, at most 64. -/
def Ok (f : Nat → Int) : Prop := ∀ i, 0 ≤ f i ∧ f i ≤ 64
theorem Ok.zero : Ok zero := fun _ => by simp [Ad.zero]
theorem Ok.put {f : Nat → Int} (h : Ok f) (k : Nat) {v : Int} (h0 : 0 ≤ v) (h1 : v ≤ 64) : Ok (put f k v) := fun i => by
  unfold Ad.put
  split
  · exact ⟨h0, h1⟩
  · exact h i
theorem Ok.part {f : Nat → Int} (h : Ok f) (i : Nat) : 0 ≤ part f i ∧ Ad.part f i ≤ 64 * i := by
  induction i with
  | zero => simp [Ad.part]
  | succ i ih =>
    have := h i
    simp only [Ad.part]
    omega
theorem Ok.sum {f : Nat → Int} (h : Ok f) : 0 ≤ sum f ∧ Ad.sum f ≤ 256 := by
  have := h.part 4
  rw [part_all] at this
  omega
end Ad
end Go.Proofs.Ytpknonfiiegnnaa
