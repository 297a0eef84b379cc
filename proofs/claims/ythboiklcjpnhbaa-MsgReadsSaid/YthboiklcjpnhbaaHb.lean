/- Slices of bytes as lists of natural numbers. -/
import Derived.Test.YthboiklcjpnhbaaMemV
namespace Go.Proofs.Ythboiklcjpnhbaa
open Go.ChangeShapes Go.WideShapes Go.ChangeAt Go.RowKit
set_option linter.unusedVariables false
set_option maxRecDepth 20000
/-- The slice at a of n bytes holds the bytes bs. -/
def HoldsB (w : World) (a : Option Addr) (n : Nat) (bs : List Nat) : Prop := HoldsI .u8 w a n (bs.map fun b : Nat => (b : Int)) ∧ ∀ b ∈ bs, b < 256
theorem HoldsB.len {w : World} {a : Option Addr} {n : Nat} {bs : List Nat} (h : HoldsB w a n bs) : bs.length = n := by simpa using h.1.1
theorem getD_map_cast (bs : List Nat) (i : Nat) : (bs.map fun b : Nat => (b : Int)).getD i 0 = ((bs.getD i 0 : Nat) : Int) := by
  simp only [List.getD_eq_getElem?_getD, List.getElem?_map]
  cases bs[i]? <;> rfl
theorem HoldsB.at {w : World} {a : Option Addr} {n : Nat} {bs : List Nat} (h : HoldsB w a n bs) (h0 : 0 < n) : ∃ b o, a = some ⟨b, o, none⟩ ∧ ∀ i, i < n → w.cell? ⟨b, o + i, none⟩ = some (.int .u8 ((bs.getD i 0 : Nat) : Int)) := by
  obtain ⟨b, o, ha, hc⟩ := h.1.2 h0
  exact ⟨b, o, ha, fun i hi => by rw [hc i hi, getD_map_cast]⟩
theorem HoldsB.below {w w' : World} {a : Option Addr} {n : Nat} {bs : List Nat} (h : HoldsB w a n bs) (hb : Below w.heap.size w w') : HoldsB w' a n bs := ⟨h.1.below hb, h.2⟩
theorem HoldsB.part {w : World} {b o n : Nat} {bs : List Nat} (h : HoldsB w (some ⟨b, o, none⟩) n bs) (i j : Nat) (hij : i ≤ j) (hj : j ≤ n) (m : Nat) (hm : m = j - i) : HoldsB w (some ⟨b, o + i, none⟩) m ((bs.take j).drop i) := by
  refine ⟨?_, fun x hx => h.2 x (List.mem_of_mem_take (List.mem_of_mem_drop hx))⟩
  rw [List.map_drop, List.map_take]
  exact h.1.part i j hij hj m hm
theorem HoldsB.front {w : World} {b o n : Nat} {bs : List Nat} (h : HoldsB w (some ⟨b, o, none⟩) n bs) (j : Nat) (hj : j ≤ n) : HoldsB w (some ⟨b, o, none⟩) j (bs.take j) := by
  have := h.part 0 j (by omega) hj j (by omega)
  simpa using this
theorem getD_lt {bs : List Nat} (h : ∀ b ∈ bs, b < 256) (i : Nat) : bs.getD i 0 < 256 := by
  rw [List.getD_eq_getElem?_getD]
  cases e : bs[i]? with
  | none => simp
  | some x => exact h x (List.mem_of_getElem? e)

/-- the bytes as values -/
def bytesV (bs : List Nat) : List Value := (bs.map fun b : Nat => (b : Int)).map (Value.int .u8)
theorem bytesV_length (bs : List Nat) : (bytesV bs).length = bs.length := by simp [bytesV]
theorem HoldsB.values {w : World} {a : Option Addr} {n : Nat} {bs : List Nat} (h : HoldsB w a n bs) : HoldsV w a n (bytesV bs) := h.1.values
theorem bytesV_one (bs : List Nat) : ∀ u ∈ bytesV bs, u.oneCell' = true := ints_oneCell _ _
theorem roomy_bytes {w : World} {B : Nat} {e : TypeId} {mark : Value} {n k : Nat} {bs : List Nat} (hl : bs.length = n) (hb : ∀ b ∈ bs, b < 256) (h : Roomy w B e mark n (bytesV bs) k) : HoldsB w (some ⟨B, 0, none⟩) n bs :=
  ⟨⟨by simpa using hl, fun _ => ⟨B, 0, rfl, fun i hi => by rw [Nat.zero_add, h.cell i hi, bytesV, getD_map_int .u8 _ i (by simp [hl]; exact hi)]⟩⟩, hb⟩
theorem bytesV_append (a b : List Nat) : bytesV a ++ bytesV b = bytesV (a ++ b) := by simp [bytesV]
theorem holdsB_of_values {w : World} {a : Option Addr} {n : Nat} {bs : List Nat} (h : HoldsV w a n (bytesV bs)) (hb : ∀ b ∈ bs, b < 256) : HoldsB w a n bs := by
  have hl : bs.length = n := by have := h.1; simpa [bytesV] using this
  refine ⟨⟨by simpa using hl, fun h0 => ?_⟩, hb⟩
  obtain ⟨b, o, ha, hc⟩ := h.2 h0
  exact ⟨b, o, ha, fun i hi => by rw [hc i hi, bytesV, getD_map_int .u8 _ i (by simp [hl]; exact hi)]⟩
theorem holdsB_lit (w : World) (bs : List Nat) (e : TypeId) (fr : Nat × Nat) (h : ∀ b ∈ bs, b < 256) : HoldsB (w.alloc (.cells (bs.map fun b : Nat => Value.int .u8 (b : Int)).toArray e fr)) (some ⟨w.heap.size, 0, none⟩) bs.length bs := by
  refine ⟨⟨by simp, fun _ => ⟨_, _, rfl, fun i hi => ?_⟩⟩, h⟩
  rw [World.cell?_alloc_mark, getD_map_cast, Nat.zero_add]
  simp [List.getD_eq_getElem?_getD, hi]
theorem holdsB_nil (w : World) (a : Option Addr) : HoldsB w a 0 [] := ⟨⟨rfl, fun h => absurd h (by decide)⟩, by simp⟩
/-- A slice of bytes that the call made: what it returns, and what became of the world. EB: the number of the type of its elements. -/
def RetB (EB : TypeId) (w : World) (bs : List Nat) (e : Ending) (w' : World) : Prop :=
  ∃ a c, e = .returned (.slice a bs.length c) ∧ w'.ownsRow w.heap.size EB 1 (.slice a bs.length c) bs.length (bytesV bs) ∧ Below w.heap.size w w' ∧ (a = none → bs.length = 0 ∧ c = 0)
end Go.Proofs.Ythboiklcjpnhbaa
