/- A string's bytes; a string appended to a slice of bytes. -/
import Derived.Test.YthboiklcjpnhbaaHb
import Derived.Lib.AppendStr
import Derived.Lib.Strings
import Derived.Lib.ConvBytes
namespace Go.Proofs.Ythboiklcjpnhbaa
open Go.ChangeShapes Go.WideShapes Go.ChangeAt Go.RowKit
set_option linter.unusedVariables false
set_option maxRecDepth 20000
def strB (s : ByteArray) : List Nat := s.data.toList.map UInt8.toNat
theorem strB_length (s : ByteArray) : (strB s).length = s.size := by rw [strB, List.length_map, Array.length_toList]; rfl
theorem strB_lt (s : ByteArray) : ∀ b ∈ strB s, b < 256 := by
  intro b hb
  obtain ⟨x, _, rfl⟩ := List.mem_map.1 hb
  exact x.toNat_lt
theorem strCells_eq (s : ByteArray) : Lib.strCells s = bytesV (strB s) := by
  simp [Lib.strCells, bytesV, strB, List.map_map]
theorem below_bytesWorld (w : World) (e : TypeId) (s : ByteArray) : Below w.heap.size w (Lib.bytesWorld w e s) :=
  ⟨rfl, rfl, rfl, by rw [Lib.bytesWorld_size]; omega, fun k hk => Lib.bytesWorld_at_old w e s k hk⟩
theorem strB_getD (s : ByteArray) (j : Nat) : (strB s).getD j 0 = (s.data.toList.getD j 0).toNat := by
  simp only [strB, List.getD_eq_getElem?_getD, List.getElem?_map]
  cases s.data.toList[j]? <;> rfl
theorem holdsB_bytesWorld (w : World) (e : TypeId) (s : ByteArray) : HoldsB (Lib.bytesWorld w e s) (some ⟨w.heap.size, 0, none⟩) s.size (strB s) :=
  ⟨⟨by rw [List.length_map, strB_length], fun _ => ⟨_, _, rfl, fun i hi => by rw [Nat.zero_add, Lib.bytesWorld_cell w e s i hi, getD_map_cast, strB_getD]⟩⟩, strB_lt s⟩
theorem wpList_append_str {P : Program} {w : World} {ops : Array Oper} {rest : List Oper} {o : Oper} {a : Act} {Q : Exit → Act → World → Prop} (hgd : o.guard = none) (s x : Operand) (t u : TypeId)
    (ho : o.op = .call { callee := .builtin .append, args := #[s, x], argTypes := #[t, u] })
    (base : Nat) (e : TypeId) (i : TypeInfo) (ht : P.underlying t = some (.slice e)) (hu : P.underlying u = some .string) (hi : P.info? e = some i) (hz : i.zero = some (.int .u8 0)) (hsize : i.size = 1) (hby : i.bytes = 1)
    (v : Value) (n : Nat) (bs : List Nat) (hs : a.eval s = v) (hown : w.ownsRow base e 1 v n (bytesV bs))
    (str : ByteArray) (hx : a.eval x = .string str)
    (h63 : n + str.size ≤ maxLen) (hbytes : n + str.size ≤ 140737488355328) (hbase : base ≤ w.heap.size)
    (h : ∀ a' c' w', w'.ownsRow base e 1 (.slice a' (n + str.size) c') (n + str.size) (bytesV (bs ++ strB str)) → Below base w w' → wpList P ops Q rest (a.put o.dst (.slice a' (n + str.size) c')) w') : wpList P ops Q (o :: rest) a w := by
  refine Lib.wpList_append_own_string w hgd s x t u ho base e i ht hu hi hz hsize hby v n (bytesV bs) hs hown str hx h63 hbytes hbase fun v' w' h2 h3 _ => ?_
  have hb' : Below base w w' := (Below.refl base w).grown h3 hbase fun k hk => (hown.lt k hk).1
  rw [strCells_eq, bytesV_append] at h2
  rcases Joins.ownsRow_forms h2 with ⟨rfl, h0⟩ | ⟨g, cap, rfl⟩
  · have := h none 0 w' (by rw [h0] at h2 ⊢; exact h2) hb'
    rw [h0] at this
    exact this
  · exact h _ _ w' h2 hb'
end Go.Proofs.Ythboiklcjpnhbaa
