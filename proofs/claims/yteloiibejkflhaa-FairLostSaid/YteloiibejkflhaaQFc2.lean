/- fair: the turned row of records -/
import Derived.Test.YteloiibejkflhaaQFc1
import Derived.Laws.IdiomCopy
import Derived.Deep.MidRow
namespace Go.Proofs.Yteloiibejkflhaa
open Go.RowKit
set_option linter.unusedVariables false
set_option maxRecDepth 20000
theorem below_cells {B p : Nat} {a : World} (hp : B ≤ p) : ∀ (vs : List Value) (o : Nat) (w : World), Below B a w → Below B a (w.setCells p o vs)
  | [], _, _, h => h
  | v :: r, o, w, h => by
    rw [World.setCells]
    exact below_cells hp r (o + 1) _ (h.setCell hp v)
theorem there_below {w w' : World} {b n : Nat} (h : w.there b 0 n) (hb : Below w.heap.size w w') (hlt : b < w.heap.size) : w'.there b 0 n := fun j hj =>
  ⟨by rw [hb.cell (p := ⟨b, 0 + j, none⟩) hlt]; exact (h j hj).1, by rw [World.frozen?_of_block (w := w) (hb.block b hlt)]; exact (h j hj).2⟩
/-- an event of a kind and a node -/
def evV (kd nd : Int) : List Value := [.int .i64 kd, .int .i64 nd, .int .i64 0, .int .i64 0, .string ⟨#[]⟩, .int .i64 0, .int .i64 0]
def evR (x : RecP) (kd nd : Int) : RecP := ⟨kd, nd, 0, 0, ⟨#[]⟩, 0, 0, x.vd, x.id, x.sa, x.sn, x.sc, x.ss, x.got, x.la, x.ln, x.lc, x.ls⟩
theorem evR_ok {w : World} {x : RecP} (h : RecOk w x) (kd nd : Int) : RecOk w (evR x kd nd) := ⟨h.s, h.l, h.sn, h.ln, by show 0 ≤ 9223372036854775807; omega, h.g, h.wl, h.ws, h.nz, h.lz⟩
structure TR (w0 w : World) (tb n : Nat) (ys : List RecP) : Prop where
  there : w.there tb 0 (n * 12)
  rc : HoldsRc w (some ⟨tb, 0, none⟩) n ys
  ok0 : ∀ y ∈ ys, RecOk w0 y
  b : Below w0.heap.size w0 w
  tB : w0.heap.size ≤ tb
  lt : tb < w.heap.size
theorem TR.below {w0 w w' : World} {tb n : Nat} {ys : List RecP} (h : TR w0 w tb n ys) (hb : Below w.heap.size w w') : TR w0 w' tb n ys :=
  ⟨there_below h.there hb h.lt, h.rc.below hb, h.ok0, h.b.trans (hb.mono h.b.size), h.tB, Nat.lt_of_lt_of_le h.lt hb.size⟩
theorem TR.at_ {w0 w : World} {tb n k : Nat} {ys : List RecP} (h : TR w0 w tb n ys) (hk : k < n) : RecIn w tb (k * 12) (ys.getD k r0) := by
  obtain ⟨b, o, e1, hc⟩ := h.rc.at_ (by omega)
  injection e1 with e1; injection e1 with e1 e2; subst e1 e2
  have := hc k hk
  rw [Nat.zero_add] at this
  exact this
theorem size_cells (p : Nat) : ∀ (vs : List Value) (o : Nat) (w : World), (w.setCells p o vs).heap.size = w.heap.size
  | [], _, _ => rfl
  | v :: r, o, w => by
    rw [World.setCells, size_cells p r (o + 1) _]
    simp
theorem TR.event {w0 w : World} {tb n k : Nat} {ys : List RecP} {x : RecP} (h : TR w0 w tb n ys) (hk : k < n) (hx : ys.getD k r0 = x) (kd nd : Int) : TR w0 (w.setCells tb (k * 12) (evV kd nd)) tb n (ys.set k (evR x kd nd)) := by
  have hb := below_cells h.tB (evV kd nd) (k * 12) w h.b
  have hxm : x ∈ ys := hx ▸ getD_memR (by rw [h.rc.len]; exact hk)
  have hat := h.at_ hk
  rw [hx] at hat
  have hin : ∀ j, j < 7 → (w.cell? ⟨tb, k * 12 + j, none⟩).isSome = true := fun j hj => by
    have := (h.there (k * 12 + j) (by omega)).1
    rw [Nat.zero_add] at this
    exact this
  have hv := World.cell?_setCells_in tb (evV kd nd) (k * 12) w hin
  have ho : ∀ j, (j < k * 12 ∨ k * 12 + 7 ≤ j) → (w.setCells tb (k * 12) (evV kd nd)).cell? ⟨tb, j, none⟩ = w.cell? ⟨tb, j, none⟩ := fun j hj => World.cell?_setCells_out tb (evV kd nd) (k * 12) w ⟨tb, j, none⟩ (fun _ _ => hj)
  refine ⟨World.there_setCells h.there _ _ _, h.rc.turned hk (fun j hj => ho j (by omega)) ?_ (fun y hy => (h.ok0 y hy).below hb) ((evR_ok (h.ok0 x hxm) kd nd).below hb), fun y hy => ?_, hb, h.tB, by rw [size_cells]; exact h.lt⟩
  · obtain ⟨-, -, -, -, -, -, -, q7, q8, q9, q10, q11⟩ := hat
    refine ⟨hv 0 (by show 0 < 7; omega), hv 1 (by show 1 < 7; omega), hv 2 (by show 2 < 7; omega), hv 3 (by show 3 < 7; omega), hv 4 (by show 4 < 7; omega), hv 5 (by show 5 < 7; omega), hv 6 (by show 6 < 7; omega), (ho _ (by omega)).trans q7, (ho _ (by omega)).trans q8, (ho _ (by omega)).trans q9, (ho _ (by omega)).trans q10, (ho _ (by omega)).trans q11⟩
  · rcases List.mem_or_eq_of_mem_set hy with hy | rfl
    · exact h.ok0 y hy
    · exact evR_ok (h.ok0 x hxm) kd nd
/-- an own row of records is one that may be turned -/
theorem tR_own {w0 w : World} {a : Option Addr} {n c : Nat} {xs : List RecP} (h : w.ownsRow w0.heap.size 43 12 (.slice a n c) n (recsV xs)) (h0 : 0 < n) (hok : ∀ x ∈ xs, RecOk w0 x) (hb : Below w0.heap.size w0 w) : ∃ tb, a = some ⟨tb, 0, none⟩ ∧ n ≤ c ∧ TR w0 w tb n xs := by
  have hrc := holdsRc_own h (fun x hx => (hok x hx).below hb)
  rcases h.2 with ⟨hv, hn⟩ | ⟨g, cap, cur, hv, hg, hh, hnc, _, hs, hx⟩
  · omega
  · injection hv with hv _ hcc
    subst hv hcc
    exact ⟨g, rfl, hnc, fun j hj => by
      have hlt : 0 + j < cur.size := by rw [hs]; have : n * 12 ≤ c * 12 := Nat.mul_le_mul_right _ hnc; omega
      exact ⟨by rw [Joins.cell_of_block hh, Array.getElem?_eq_getElem hlt]; rfl, by simp [World.frozen?, hh]⟩, hrc, hok, hb, hg, (Array.getElem?_eq_some_iff.1 hh).1⟩
theorem TR.mid {w0 w : World} {tb n k : Nat} {ys : List RecP} (h : TR w0 w tb n ys) (hk : k < n) (m l : Nat) (hl : m + l ≤ 12) : w.there tb (k * 12 + m) l := fun j hj => by
  have := h.there (k * 12 + m + j) (by omega)
  rw [Nat.zero_add] at this
  exact this
theorem set_small {ys : List RecP} {x : RecP} {k m : Nat} {kd nd : Int} (h : ∀ y ∈ ys, y.sn ≤ m ∧ y.ln ≤ m) (hx : x ∈ ys) : ∀ y ∈ ys.set k (evR x kd nd), y.sn ≤ m ∧ y.ln ≤ m := fun y hy => by
  rcases List.mem_or_eq_of_mem_set hy with hy | rfl
  · exact h y hy
  · exact h x hx
end Go.Proofs.Yteloiibejkflhaa
