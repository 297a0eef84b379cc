/- texts joined -/
import Derived.Shelf.Strings.Builder1
import Derived.Shelf.Strings.BuilderK
import Derived.Test.YtmddnklafplikaaDoorChecked
import Derived.WalkLawsBesides
import Derived.Outline
import Derived.Lib.Hide
import Derived.WalkKit
import Derived.ProofKit
import Derived.OpenShut
import Derived.Lib.SmallJoins
import Derived.Laws.RangeAny
import Derived.Lib.DecodeN
import Derived.Lib.ConvBytes
import Derived.Laws.Rows
import Derived.Lib.ItoaNum
import Derived.Lib.Split
import Derived.Lib.Join
import Derived.Deep.Slices
import Derived.OwnWalk
import Derived.Laws.AppendOwnNone
import Derived.WalkSpells
import Derived.Deep.QuietTactic
import Derived.BigQuiet
import Derived.Deep.DeepCutAuto
import Derived.Sort.Walk0
import Derived.SliceStrings
import Derived.Shelf.Small.Strs
import Derived.Lib.OthersKept
import Derived.WalkSmall
import Derived.Shelf.Strings.Split
import Derived.Shelf.Strings.Prefix
import Derived.Lib.SplitLaws
import Derived.Shelf.Strings.OnBuilder
import Derived.Deep.RegionWith
import Derived.BigRegion
import Derived.Shelf.Strconv.Itoa3
namespace Go.Proofs.YtmddnklafplikaaDoor
open Go.Shelf Go.RowKit
def Tryd.lays169_ren : Go.Shelf.Ren := ⟨fun | 169 => 24 | n => n, fun | 70 => 51 | 9 => 9 | 0 => 0 | 72 => 54 | 37 => 52 | 127 => 81 | 3 => 3 | 5 => 5 | n => n, fun | n => n⟩
theorem Tryd.lays169 : Go.Proofs.Lays.n169 Tryd.prog Tryd.lays169_ren := {
  mixed := by kernel_rfl
  f169 := Tryd.func24.trans (congrArg some (by kernel_rfl))
  t0 := Tryd.underlying0
  a0 := Tryd.isAgg0
  z0 := Tryd.sizeOf0
  v0 := Tryd.zeroValue0
  t3 := Tryd.underlying3
  a3 := Tryd.isAgg3
  z3 := Tryd.sizeOf3
  v3 := Tryd.zeroValue3
  t9 := Tryd.underlying9
  a9 := Tryd.isAgg9
  z9 := Tryd.sizeOf9
  v9 := Tryd.zeroValue9
  t37 := Tryd.underlying52
  a37 := Tryd.isAgg52
  z37 := Tryd.sizeOf52
  v37 := Tryd.zeroValue52
  t70 := Tryd.underlying51
  a70 := Tryd.isAgg51
  z70 := Tryd.sizeOf51
  v70 := Tryd.zeroValue51
  t72 := Tryd.underlying54
  a72 := Tryd.isAgg54
  z72 := Tryd.sizeOf54
  v72 := Tryd.zeroValue54
  t127 := Tryd.underlying81
  a127 := Tryd.isAgg81
  z127 := Tryd.sizeOf81
  v127 := Tryd.zeroValue81 }
theorem Tryd.Builder_Extra_169 : Builder.Extra Tryd.prog Tryd.lays169_ren := {
  sizeBuilder := by kernel_rfl
  liesBuilder := by kernel_rfl
  t5 := Tryd.underlying5
  a5 := Tryd.isAgg5
  z5 := Tryd.sizeOf5
  v5 := Tryd.zeroValue5
  infoByte := by kernel_rfl
  cellsByte := by kernel_rfl
  sizeByte := by kernel_rfl
  neB5 := by decide }
theorem bstring_any (B b : Nat) (l : List UInt8) (w : World) (h : Lib.IsBuilderF 54 5 B b (Lib.byteCells l) w) (hBw : B ≤ w.heap.size) :
    Calls Tryd.prog 24 #[.pointer (some ⟨b, 0, none⟩)] w fun e w' => e = .returned (.string ⟨l.toArray⟩) ∧ (Lib.IsBuilderF 54 5 B b (Lib.byteCells l) w' ∧ Below B w w') :=
  (Any.Builder_String_any_k Tryd.lays169 Tryd.Builder_Extra_169 B b l w h hBw).mono fun _ _ h => ⟨h.1, h.2.1, h.2.2.1⟩
theorem builder_size : (Tryd.prog.info? 54).map (·.size) = some 2 := by kernel_rfl
set_option maxHeartbeats 1000000 in
theorem copyCheck_used (b : Nat) (w : World) (h0 : w.cell? ⟨b, 0, none⟩ = some (.pointer (some ⟨b, 0, none⟩))) :
    Calls Tryd.prog 38 #[.pointer (some ⟨b, 0, none⟩)] w fun e w' => e = .returned (.tuple #[]) ∧ w' = w := by
  obtain ⟨j, hj, _⟩ := Option.map_eq_some_iff.1 builder_size
  have hq := Lib.run_neq_ptr_same (P := Tryd.prog) (w := w) ⟨b, 0, none⟩ Tryd.underlying51 hj
  go_enter Tryd.func38, Tryd.ntmps38
  go_wp2
  go_end0
  exact ⟨rfl, rfl⟩
set_option maxHeartbeats 1000000 in
theorem copyCheck_fresh (b : Nat) (w : World) (h0 : w.cell? ⟨b, 0, none⟩ = some (.pointer none)) (hsh : w.shape? b = some (54, 2)) (hfz : w.frozen? ⟨b, 0, none⟩ = false) :
    Calls Tryd.prog 38 #[.pointer (some ⟨b, 0, none⟩)] w fun e w' => e = .returned (.tuple #[]) ∧ w' = w.setCell ⟨b, 0, none⟩ (.pointer (some ⟨b, 0, none⟩)) := by
  obtain ⟨j, hj, hjs⟩ := Option.map_eq_some_iff.1 builder_size
  have c1 := Lib.run_to_unsafe (P := Tryd.prog) w ⟨b, 0, none⟩ Tryd.underlying51 Tryd.underlying95 hj (by rw [hjs]; decide) hsh (Nat.zero_lt_succ 1)
  have c2 := Lib.run_from_unsafe (P := Tryd.prog) w ⟨b, 0, none⟩ Tryd.underlying95 Tryd.underlying51 hj hsh (by kernel_rfl)
  have c3 := run_callFunc_extern (P := Tryd.prog) Tryd.func58 (by kernel_rfl) (by kernel_rfl) (by kernel_rfl) (e := Extern.AbiNoEscape.same) (by kernel_rfl) #[.pointer (some ⟨b, 0, none⟩)] w
  rw [Lib.run_noEscape] at c3
  simp only [Result.andThen] at c3
  go_enter Tryd.func38, Tryd.ntmps38
  go_wp2
  go_end0
  exact ⟨rfl, rfl⟩
/-- rows of bytes that no builder owns -/
def KeepsOdd (w w' : World) : Prop := ∀ (r : Nat) (cs : Array Value) (fz : Nat × Nat), w.heap[r]? = some (Obj.cells cs 5 fz) → cs.size < fz.2 → w'.heap[r]? = some (Obj.cells cs 5 fz)
/-- iterators stay where they stand -/
def KeepsIt (w w' : World) : Prop := ∀ (r : Nat) (s : ByteArray) (pos : Nat), w.heap[r]? = some (.stringIter s pos) → w'.heap[r]? = some (.stringIter s pos)
theorem odd_apart {w : World} {base n : Nat} {v : Value} {xs : List Value} (h : w.ownsRowF base 5 1 v n xs) {r : Nat} {cs : Array Value} {fz : Nat × Nat} (hr : w.heap[r]? = some (.cells cs 5 fz)) (ho : cs.size < fz.2) : v.ownBlock ≠ some r := by
  rcases h.2 with ⟨rfl, _⟩ | ⟨g, cap, cur, fz', rfl, _, hg, h1, h2, _, h3, _⟩
  · simp [Value.ownBlock]
  · intro e
    injection e with e
    subst e
    rw [hg] at hr
    injection hr with hr
    injection hr with e1 e2 e3
    subst e1 e3
    omega
theorem odd_ne {w : World} {b r : Nat} {x : Array Value} {fb : Nat × Nat} (hb : w.heap[b]? = some (.cells x 54 fb)) {cs : Array Value} {fz : Nat × Nat} (hr : w.heap[r]? = some (.cells cs 5 fz)) : r ≠ b := by
  rintro rfl
  rw [hb] at hr
  injection hr with hr
  injection hr with e1 e2 e3
  exact absurd e2 (by decide)
theorem it_ne {w : World} {b r : Nat} {x : Array Value} {e : TypeId} {fb : Nat × Nat} (hb : w.heap[b]? = some (.cells x e fb)) {s : ByteArray} {pos : Nat} (hr : w.heap[r]? = some (.stringIter s pos)) : r ≠ b := by
  rintro rfl
  rw [hb] at hr
  injection hr with hr
  cases hr
theorem it_apart {w : World} {base n : Nat} {v : Value} {xs : List Value} (h : w.ownsRowF base 5 1 v n xs) {r : Nat} {s : ByteArray} {pos : Nat} (hr : w.heap[r]? = some (.stringIter s pos)) : v.ownBlock ≠ some r := by
  rcases h.2 with ⟨rfl, _⟩ | ⟨g, cap, cur, fz', rfl, _, hg, h1, h2, _, h3, _⟩
  · simp [Value.ownBlock]
  · intro e
    injection e with e
    exact it_ne hg hr e.symm
theorem copyCheck_any (B b : Nat) (bs : List Value) (w : World) (h : Lib.IsBuilderF 54 5 B b bs w) :
    Calls Tryd.prog 38 #[.pointer (some ⟨b, 0, none⟩)] w fun e w' => e = .returned (.tuple #[]) ∧ (Lib.BuilderAtF 54 5 B b (.pointer (some ⟨b, 0, none⟩)) bs w' ∧ Below B w w' ∧ KeepsOdd w w' ∧ KeepsIt w w') := by
  rcases h with h | h
  · refine (copyCheck_fresh b w h.cell0 h.shape h.frozen0).mono ?_
    rintro e w' ⟨rfl, rfl⟩
    exact ⟨rfl, h.used _, (Below.refl B w).setCell (p := ⟨b, 0, none⟩) h.1 _, fun r cs fz hr _ => (Below.heap_setCell _ ⟨b, 0, none⟩ _ r (odd_ne h.2.choose_spec.1 hr)).trans hr, fun r s pos hr => (Below.heap_setCell _ ⟨b, 0, none⟩ _ r (it_ne h.2.choose_spec.1 hr)).trans hr⟩
  · refine (copyCheck_used b w h.cell0).mono ?_
    rintro e w' ⟨rfl, rfl⟩
    exact ⟨rfl, h, Below.refl B _, fun _ _ _ hr _ => hr, fun _ _ _ hr => hr⟩
theorem byte_info : (Tryd.prog.info? 5).map (fun i => (i.zero, i.size, i.bytes)) = some (some (.int .u8 0), 1, 1) := by kernel_rfl
set_option maxRecDepth 100000 in
set_option maxHeartbeats 4000000 in
theorem bbyte_any (B b : Nat) (l : List UInt8) (c : UInt8) (w : World) (h : Lib.IsBuilderF 54 5 B b (Lib.byteCells l) w) (hlen : l.length + 1 ≤ 140737488355328) (hBw : B ≤ w.heap.size) :
    Calls Tryd.prog 22 #[.pointer (some ⟨b, 0, none⟩), .int .u8 c.toNat] w fun e w' => e = .returned .nilIface ∧ Lib.IsBuilderF 54 5 B b (Lib.byteCells (l ++ [c])) w' ∧ Below B w w' ∧ KeepsOdd w w' ∧ KeepsIt w w' := by
  obtain ⟨i0, hi, hz0, hz1, hz2⟩ := info_parts byte_info
  rw [show Lib.byteCells (l ++ [c]) = Lib.byteCells l ++ [.int .u8 c.toNat] by simp [Lib.byteCells]]
  have hbl := Lib.byteCells_length l
  obtain ⟨bs, hbs⟩ : ∃ bs, Lib.byteCells l = bs := ⟨_, rfl⟩
  rw [hbs] at h hbl ⊢
  have hlen2 : bs.length + 1 ≤ 140737488355328 := by omega
  clear hbl hlen hbs
  go_enter Tryd.func22, Tryd.ntmps22
  go_wp2_with fail
  refine (copyCheck_any B b bs _ h).mono ?_
  rintro e w1 ⟨rfl, h1, hb1, hk1, hi1⟩
  obtain ⟨hB, v, hbk, hown, hne⟩ := h1
  obtain ⟨ao, cap, rfl⟩ : ∃ ao cap, v = .slice ao bs.length cap := by
    rcases hown.2 with ⟨hv, h0⟩ | ⟨g, cap, cur, fz, hv, _⟩
    · exact ⟨none, 0, by rw [hv, h0]⟩
    · exact ⟨_, _, hv⟩
  have c0 : w1.cell? ⟨b, 0, none⟩ = some (.pointer (some ⟨b, 0, none⟩)) := by rw [Lib.cell_of_heap hbk]; rfl
  have c1 : w1.cell? ⟨b, 1, none⟩ = some (.slice ao bs.length cap) := by rw [Lib.cell_of_heap hbk]; rfl
  have hlt : b < w1.heap.size := by
    rcases Nat.lt_or_ge b w1.heap.size with h' | h'
    · exact h'
    · simp [Array.getElem?_eq_none h'] at hbk
  have key : ∀ (o : Obj) (w2 : World), (w1.alloc o).grownBy w2 (Value.slice ao bs.length cap).ownBlock → w2.heap[b]? = some (.cells #[.pointer (some ⟨b, 0, none⟩), .slice ao bs.length cap] 54 (0, 0)) := by
    intro o w2 hgrow
    rw [hgrow.block b (by simp; omega) (fun e => hne e.symm), Lib.alloc_old w1 _ b hlt]
    exact hbk
  go_wp2_with (at_builtin; refine wpList_append_ownF _ rfl (.tmp 11) (.tmp 13) 52 rfl B 5 i0 (.int .u8 0) 1 1 Tryd.underlying52 hi hz0 hz1 hz2 rfl (by decide) (.slice ao bs.length cap) bs.length bs rfl (hown.alloc _) ⟨w1.heap.size, 0, none⟩ 1 1 [.int .u8 c.toNat] rfl rfl (fun j u hj => by match j, hj with | 0, hj => simp at hj; subst hj; first | done | simp [Addr.add]) (by simp [Value.oneCell']) (by unfold maxLen; omega) (by omega) (by have := hb1.size; simp; omega) ?_; intro v' w2 hown' hgrow _; have hb2 := key _ w2 hgrow; have d1 : w2.cell? ⟨b, 1, none⟩ = some (.slice ao bs.length cap) := (by first | (rw [Lib.cell_of_heap hb2]; done) | (rw [Lib.cell_of_heap hb2]; rfl)); have f1 : w2.frozen? ⟨b, 1, none⟩ = false := Lib.frozen_of_heap hb2 1; obtain ⟨g, cap', rfl⟩ : ∃ g cap', v' = .slice (some ⟨g, 0, none⟩) (bs.length + 1) cap' := (by rcases hown'.2 with ⟨_, h0⟩ | ⟨g, cap', cur, fz, hv, _⟩; (· omega); (· exact ⟨g, cap', hv⟩)))
  go_ret
  refine ⟨rfl, Or.inr ?_, ?_, ?_, ?_⟩
  · exact Lib.BuilderAtF.put (T := 54) (e := 5) hB hb2 (bs' := bs ++ [.int .u8 c.toNat]) (by simpa using hown') (by decide)
  · exact ((hb1.alloc (by have := hb1.size; omega) _).grown hgrow (by have := hb1.size; simp; omega) (fun k hk => (hown.lt k hk).1)).setCell (p := ⟨b, 1, none⟩) hB _
  · intro r cs fz hr ho
    have h1 := hk1 r cs fz hr ho
    have hrl : r < w1.heap.size := by
      rcases Nat.lt_or_ge r w1.heap.size with h' | h'
      · exact h'
      · simp [Array.getElem?_eq_none h'] at h1
    rw [Below.heap_setCell _ ⟨b, 1, none⟩ _ r (odd_ne hbk h1), hgrow.block r (by simp; omega) (fun e => odd_apart hown h1 ho e.symm), Lib.alloc_old w1 _ r hrl]
    exact h1
  · intro r s pos hr
    have h1 := hi1 r s pos hr
    have hrl : r < w1.heap.size := by
      rcases Nat.lt_or_ge r w1.heap.size with h' | h'
      · exact h'
      · simp [Array.getElem?_eq_none h'] at h1
    rw [Below.heap_setCell _ ⟨b, 1, none⟩ _ r (it_ne hbk h1), hgrow.block r (by simp; omega) (fun e => it_apart hown h1 e.symm), Lib.alloc_old w1 _ r hrl]
    exact h1
end Go.Proofs.YtmddnklafplikaaDoor
namespace Go.Proofs.YtmddnklafplikaaDoor
open Go.Shelf Go.RowKit
set_option linter.unusedVariables false
set_option maxRecDepth 20000
def PageIs (B b : Nat) (l : List UInt8) (w : World) : Prop := Lib.IsBuilderF 68 5 B b (Lib.byteCells l) w
/-- blocks that are neither a page's nor a row of bytes stay as they are -/
def KeepsT (w w' : World) : Prop := ∀ (q : Nat) (cs : Array Value) (t : TypeId) (fz : Nat × Nat), w.heap[q]? = some (.cells cs t fz) → t ≠ 68 → t ≠ 5 → w'.heap[q]? = some (.cells cs t fz)
theorem KeepsT.refl (w : World) : KeepsT w w := fun _ _ _ _ h _ _ => h
theorem KeepsT.trans {a b c : World} (h1 : KeepsT a b) (h2 : KeepsT b c) : KeepsT a c := fun q cs t fz h e1 e2 => h2 q cs t fz (h1 q cs t fz h e1 e2) e1 e2
theorem lt_of_heap29 {w : World} {q : Nat} {o : Obj} (h : w.heap[q]? = some o) : q < w.heap.size := by
  rcases Nat.lt_or_ge q w.heap.size with h' | h'
  · exact h'
  · rw [Array.getElem?_eq_none h'] at h; cases h
theorem KeepsT.below {a b : World} (h : Below a.heap.size a b) : KeepsT a b := fun q cs t fz hq _ _ => (h.block q (lt_of_heap29 hq)).trans hq
theorem kinds_ne {w : World} {b q : Nat} {x cs : Array Value} {t u : TypeId} {fb fz : Nat × Nat} (hb : w.heap[b]? = some (.cells x u fb)) (hq : w.heap[q]? = some (.cells cs t fz)) (ht : t ≠ u) : q ≠ b := by
  rintro rfl
  rw [hb] at hq
  injection hq with hq
  injection hq with e1 e2 e3
  exact ht e2.symm
theorem row_apart {w : World} {base n : Nat} {v : Value} {xs : List Value} (h : w.ownsRowF base 5 1 v n xs) {r : Nat} {cs : Array Value} {t : TypeId} {fz : Nat × Nat} (hr : w.heap[r]? = some (.cells cs t fz)) (ht : t ≠ 5) : v.ownBlock ≠ some r := by
  rcases h.2 with ⟨rfl, _⟩ | ⟨g, cap, cur, fz', rfl, _, hg, _⟩
  · simp [Value.ownBlock]
  · intro e
    injection e with e
    exact kinds_ne hg hr ht e.symm
set_option maxHeartbeats 1000000 in
theorem pcheck_fresh (b : Nat) (w : World) (h0 : w.cell? ⟨b, 0, none⟩ = some (.pointer none)) (hsh : w.shape? b = some (68, 2)) (hfz : w.frozen? ⟨b, 0, none⟩ = false) :
    Calls Tryd.prog 38 #[.pointer (some ⟨b, 0, none⟩)] w fun e w' => e = .returned (.tuple #[]) ∧ w' = w.setCell ⟨b, 0, none⟩ (.pointer (some ⟨b, 0, none⟩)) := by
  obtain ⟨j, hj, hjs⟩ := Option.map_eq_some_iff.1 builder_size
  have c1 := Lib.run_to_unsafe (P := Tryd.prog) w ⟨b, 0, none⟩ Tryd.underlying51 Tryd.underlying95 hj (by rw [hjs]; decide) hsh (Nat.zero_lt_succ 1)
  have c2 := Lib.run_from_unsafe (P := Tryd.prog) w ⟨b, 0, none⟩ Tryd.underlying95 Tryd.underlying51 hj hsh (by kernel_rfl)
  have c3 := run_callFunc_extern (P := Tryd.prog) Tryd.func58 (by kernel_rfl) (by kernel_rfl) (by kernel_rfl) (e := Extern.AbiNoEscape.same) (by kernel_rfl) #[.pointer (some ⟨b, 0, none⟩)] w
  rw [Lib.run_noEscape] at c3
  simp only [Result.andThen] at c3
  go_enter Tryd.func38, Tryd.ntmps38
  go_wp2
  go_end0
  exact ⟨rfl, rfl⟩
theorem pcheck_any (B b : Nat) (bs : List Value) (w : World) (h : Lib.IsBuilderF 68 5 B b bs w) :
    Calls Tryd.prog 38 #[.pointer (some ⟨b, 0, none⟩)] w fun e w' => e = .returned (.tuple #[]) ∧ (Lib.BuilderAtF 68 5 B b (.pointer (some ⟨b, 0, none⟩)) bs w' ∧ Below B w w' ∧ KeepsT w w') := by
  rcases h with h | h
  · refine (pcheck_fresh b w h.cell0 h.shape h.frozen0).mono ?_
    rintro e w' ⟨rfl, rfl⟩
    exact ⟨rfl, h.used _, (Below.refl B w).setCell (p := ⟨b, 0, none⟩) h.1 _, fun q cs t fz hq e1 _ => (Below.heap_setCell _ ⟨b, 0, none⟩ _ q (kinds_ne h.2.choose_spec.1 hq e1)).trans hq⟩
  · refine (copyCheck_used b w h.cell0).mono ?_
    rintro e w' ⟨rfl, rfl⟩
    exact ⟨rfl, h, Below.refl B _, KeepsT.refl _⟩
set_option maxRecDepth 100000 in
set_option maxHeartbeats 4000000 in
theorem pwrite_any (B b : Nat) (l : List UInt8) (s : ByteArray) (w : World) (h : PageIs B b l w) (hlen : l.length + s.size ≤ 100000000) (hBw : B ≤ w.heap.size) :
    Calls Tryd.prog 64 #[.pointer (some ⟨b, 0, none⟩), .string s] w fun e w' => e = .returned (.tuple #[.int .i64 s.size, .nilIface]) ∧ PageIs B b (l ++ s.data.toList) w' ∧ Below B w w' ∧ KeepsT w w' := by
  obtain ⟨i0, hi, hz0, hz1, hz2⟩ := info_parts byte_info
  unfold PageIs at h ⊢
  rw [show Lib.byteCells (l ++ s.data.toList) = Lib.byteCells l ++ Lib.strCells s by simp [Lib.byteCells, Lib.strCells]]
  have hbl := Lib.byteCells_length l
  obtain ⟨bs, hbs⟩ : ∃ bs, Lib.byteCells l = bs := ⟨_, rfl⟩
  rw [hbs] at h hbl ⊢
  obtain ⟨n, hn⟩ : ∃ n, s.size = n := ⟨_, rfl⟩
  have hsl := Lib.strCells_length s
  rw [hn] at hlen hsl
  have hlen2 : bs.length + n ≤ 100000000 := by omega
  clear hbl hlen hbs
  go_enter Tryd.func64, Tryd.ntmps64
  go_wp2_with fail
  refine (pcheck_any B b bs _ h).mono ?_
  rintro e w1 ⟨rfl, h1, hb1, hk1⟩
  obtain ⟨hB, v, hbk, hown, hne⟩ := h1
  obtain ⟨ao, cap, rfl⟩ : ∃ ao cap, v = .slice ao bs.length cap := by
    rcases hown.2 with ⟨hv, h0⟩ | ⟨g, cap, cur, fz, hv, _⟩
    · exact ⟨none, 0, by rw [hv, h0]⟩
    · exact ⟨_, _, hv⟩
  have c0 : w1.cell? ⟨b, 0, none⟩ = some (.pointer (some ⟨b, 0, none⟩)) := by rw [Lib.cell_of_heap hbk]; rfl
  have c1 : w1.cell? ⟨b, 1, none⟩ = some (.slice ao bs.length cap) := by rw [Lib.cell_of_heap hbk]; rfl
  have hlt : b < w1.heap.size := by
    rcases Nat.lt_or_ge b w1.heap.size with h' | h'
    · exact h'
    · simp [Array.getElem?_eq_none h'] at hbk
  have key : ∀ (w2 : World), w1.grownBy w2 (Value.slice ao bs.length cap).ownBlock → w2.heap[b]? = some (.cells #[.pointer (some ⟨b, 0, none⟩), .slice ao bs.length cap] 68 (0, 0)) := by
    intro w2 hgrow
    rw [hgrow.block b hlt (fun e => hne e.symm)]
    exact hbk
  have KEY := Lib.hid key
  have hbs1 : B ≤ w1.heap.size := Nat.le_trans hBw hb1.size
  clear key
  go_wp2_with (at_builtin; refine Lib.wpList_append_own_stringF _ rfl (.tmp 12) (.tmp 13) 52 9 rfl B 5 i0 Tryd.underlying52 Tryd.underlying9 hi hz0 hz1 hz2 (.slice ao bs.length cap) bs.length bs rfl hown s rfl (by unfold maxLen; omega) (by omega) hbs1 ?_; rw [hn]; intro v' w2 hown' hgrow hiff; have hb2 := KEY.out w2 hgrow; have d1 : w2.cell? ⟨b, 1, none⟩ = some (.slice ao bs.length cap) := (by first | (rw [Lib.cell_of_heap hb2]; done) | (rw [Lib.cell_of_heap hb2]; rfl)); have f1 : w2.frozen? ⟨b, 1, none⟩ = false := Lib.frozen_of_heap hb2 1; obtain ⟨g, cap', rfl⟩ : ∃ g cap', v' = .slice g (bs.length + n) cap' := (by rcases hown'.2 with ⟨h0, h2⟩ | ⟨g, cap', cur, fz, hv, _⟩; (· exact ⟨none, 0, by rw [h0, h2]⟩); (· exact ⟨_, cap', hv⟩)))
  go_ret2
  have hlb : (bs ++ Lib.strCells s).length = bs.length + n := by rw [List.length_append, hsl]
  refine ⟨by first | rfl | (rw [hn]; rfl), Or.inr ?_, ?_, ?_⟩
  · exact Lib.BuilderAtF.put (T := 68) (e := 5) hB hb2 (bs' := bs ++ Lib.strCells s) (by rw [hlb]; exact hown') (by decide)
  · exact (hb1.grown hgrow hbs1 (fun k hk => (hown.lt k hk).1)).setCell (p := ⟨b, 1, none⟩) hB _
  · intro q cs t fz hq e1 e2
    have h1 := hk1 q cs t fz hq e1 e2
    rw [Below.heap_setCell _ ⟨b, 1, none⟩ _ q (kinds_ne hbk h1 e1), hgrow.block q (lt_of_heap29 h1) (fun e => row_apart hown h1 e2 e.symm)]
    exact h1
theorem plen_any (B b : Nat) (l : List UInt8) (n : Nat) (w : World) (h : PageIs B b l w) (hn : l.length = n) :
    Calls Tryd.prog 31 #[.pointer (some ⟨b, 0, none⟩)] w fun e w' => e = .returned (.int .i64 n) ∧ w' = w := by
  obtain ⟨p, hB, v, hbk, hown, hne⟩ : ∃ p, Lib.BuilderAtF 68 5 B b p (Lib.byteCells l) w := by
    rcases h with h | h
    · exact ⟨_, h⟩
    · exact ⟨_, h⟩
  have hl := Lib.byteCells_length l
  rw [hn] at hl
  obtain ⟨ao, cap, rfl⟩ : ∃ ao cap, v = .slice ao n cap := by
    rcases hown.2 with ⟨hv, h0⟩ | ⟨g, cap, cur, fz, hv, _⟩
    · exact ⟨none, 0, by rw [hv, ← hl, h0]⟩
    · exact ⟨_, _, by rw [hv, hl]⟩
  have c1 : w.cell? ⟨b, 1, none⟩ = some (.slice ao n cap) := by rw [Lib.cell_of_heap hbk]; rfl
  clear hl hn hbk hown hne
  go_enter Tryd.func31, Tryd.ntmps31
  go_wp2_with fail
  go_ret
  exact ⟨rfl, rfl⟩
end Go.Proofs.YtmddnklafplikaaDoor
namespace Go.Proofs.YtmddnklafplikaaDoor
open Go.Shelf Go.RowKit
set_option linter.unusedVariables false
set_option maxRecDepth 20000
set_option maxRecDepth 100000 in
set_option maxHeartbeats 2000000 in
theorem pstring_any (B b : Nat) (l : List UInt8) (w : World) (h : PageIs B b l w) (h0 : l ≠ []) :
    Calls Tryd.prog 24 #[.pointer (some ⟨b, 0, none⟩)] w fun e w' => e = .returned (.string ⟨l.toArray⟩) ∧ Below B w w' := by
  obtain ⟨p, hB, v, hbk, hown, hne⟩ : ∃ p, Lib.BuilderAtF 68 5 B b p (Lib.byteCells l) w := by
    rcases h with h | h
    · exact ⟨_, h⟩
    · exact ⟨_, h⟩
  have hl0 : l.length ≠ 0 := by simpa using h0
  have hcl : (Tryd.prog.cellsOf 5) = 1 := by kernel_rfl
  rw [Lib.byteCells_length] at hown
  obtain ⟨g, cap, cur, fz, rfl, hbg, hg, hfz, hnc, hcm, hcs, htk⟩ : ∃ g cap cur fz, v = .slice (some ⟨g, 0, none⟩) l.length cap ∧ B ≤ g ∧ w.heap[g]? = some (.cells cur 5 fz) ∧ fz.2 ≤ l.length * 1 ∧ l.length ≤ cap ∧ cap ≤ maxLen ∧ cur.size = cap * 1 ∧ cur.toList.take (l.length * 1) = Lib.byteCells l := by
    rcases hown.2 with ⟨_, hz⟩ | ⟨g, cap, cur, fz, hv, r⟩
    · exact absurd hz hl0
    · exact ⟨g, cap, cur, fz, hv, r⟩
  have c1 : w.drew.cell? ⟨b, 1, none⟩ = some (.slice (some ⟨g, 0, none⟩) l.length cap) := by
    have h2 : w.drew.heap[b]? = some (.cells #[p, .slice (some ⟨g, 0, none⟩) l.length cap] 68 (0, 0)) := hbk
    rw [Lib.cell_of_heap h2]; rfl
  have s1 : (Builtin.unsafeSliceData_ #[52] 81 #[.slice (some ⟨g, 0, none⟩) l.length cap]).run Tryd.prog w.drew = .ok (.pointer (some ⟨g, 0, none⟩)) w.drew := Lib.run_unsafeSliceData_row _ _ _ _ _ _ (by omega)
  have s2 : (Builtin.unsafeString_ #[81, 3] 9 #[.pointer (some ⟨g, 0, none⟩), .int .i64 l.length]).run Tryd.prog w.drew = .ok (.string ⟨l.toArray⟩) (w.drew.freeze ⟨g, 0, none⟩ l.length) := by
    refine Lib.run_unsafeString_row w.drew 81 3 9 5 Tryd.underlying81 hcl g cur.size (by have hg' : w.drew.heap[g]? = some (.cells cur 5 fz) := hg; simp [World.shape?, hg']) l h0 (by omega) (by unfold maxLen at hcm; omega) ?_
    intro j x hx
    have := hown.cells (g := g) rfl j (.int .u8 x.toNat) (by simp [Lib.byteCells, hx])
    exact this
  have mixed := Tryd.lays169.mixed
  go_enter Tryd.func24, Tryd.ntmps24
  go_wp2
  go_region_o
  all_goals (go_wp2; go_ret; exact ⟨rfl, Lib.below_freeze (Below.drew (Below.refl B w)) (p := ⟨g, 0, none⟩) hbg _⟩)
end Go.Proofs.YtmddnklafplikaaDoor
namespace Go.Proofs.YtmddnklafplikaaDoor
open Go.ChangeShapes Go.WideShapes Go.ChangeAt Go.RowKit
set_option linter.unusedVariables false
set_option maxRecDepth 20000
theorem ret_bool {a b : Bool} (h : a = b) : Ending.returned (.bool a) = .returned (.bool b) := by rw [h]
theorem below_one (w : World) (o : Obj) : Below w.heap.size w (w.alloc o) := (Below.refl _ _).alloc (Nat.le_refl _) o
theorem below_drewN (w : World) (n : Nat) : Below w.heap.size w (w.drewN n) := Joins.below_draws _ _ _
/-- The slice at a of n elements of the kind k holds the numbers zs. (Of a slice of no elements nothing is said of its address.) -/
def HoldsI (k : IntKind) (w : World) (a : Option Addr) (n : Nat) (zs : List Int) : Prop :=
  zs.length = n ∧ (0 < n → ∃ b o, a = some ⟨b, o, none⟩ ∧ ∀ i, i < n → w.cell? ⟨b, o + i, none⟩ = some (.int k (zs.getD i 0)))
theorem HoldsI.len {k : IntKind} {w : World} {a : Option Addr} {n : Nat} {zs : List Int} (h : HoldsI k w a n zs) : zs.length = n := h.1
theorem HoldsI.at {k : IntKind} {w : World} {a : Option Addr} {n : Nat} {zs : List Int} (h : HoldsI k w a n zs) (h0 : 0 < n) : ∃ b o, a = some ⟨b, o, none⟩ ∧ ∀ i, i < n → w.cell? ⟨b, o + i, none⟩ = some (.int k (zs.getD i 0)) := h.2 h0
theorem lt_of_cell {w : World} {b o : Nat} {v : Value} (h : w.cell? ⟨b, o, none⟩ = some v) : b < w.heap.size := by
  rcases Nat.lt_or_ge b w.heap.size with h' | h'
  · exact h'
  · simp [World.cell?, Array.getElem?_eq_none h'] at h
theorem HoldsI.below {k : IntKind} {w w' : World} {a : Option Addr} {n : Nat} {zs : List Int} (h : HoldsI k w a n zs) (hb : Below w.heap.size w w') : HoldsI k w' a n zs := by
  refine ⟨h.1, fun h0 => ?_⟩
  obtain ⟨b, o, ha, hc⟩ := h.2 h0
  refine ⟨b, o, ha, fun i hi => ?_⟩
  rw [hb.cell (p := ⟨b, o + i, none⟩) (lt_of_cell (hc i hi))]
  exact hc i hi
theorem take_succ_getD {α : Type} (l : List α) (d : α) (k : Nat) (h : k < l.length) : l.take (k + 1) = l.take k ++ [l.getD k d] := by
  rw [List.take_succ_eq_append_getElem h]; simp [List.getD_eq_getElem?_getD, h]
theorem take_ne_of_getD {α : Type} {l m : List α} (d : α) (k : Nat) (h : l.getD k d ≠ m.getD k d) : l ≠ m := fun e => h (by rw [e])
theorem take_eq_all {α : Type} {l m : List α} {n : Nat} (h : l.take n = m.take n) (h1 : l.length = n) (h2 : m.length = n) : l = m := by
  rw [← List.take_of_length_le (Nat.le_of_eq h1), ← List.take_of_length_le (Nat.le_of_eq h2)]; exact h
end Go.Proofs.YtmddnklafplikaaDoor
namespace Go.Proofs.YtmddnklafplikaaDoor
/-- the runes from a place on, at most so many -/
def runesN (s : ByteArray) : Nat → Nat → List Nat
  | 0, _ => []
  | f + 1, pos => if pos < s.size then (Utf8.decode s pos).1 :: runesN s f (pos + (Utf8.decode s pos).2) else []
/-- the runes of a text, U+FFFD where there is none -/
def runesS (s : ByteArray) : List Nat := runesN s s.size 0
theorem decode_width (s : ByteArray) (pos : Nat) (h : pos < s.size) : 1 ≤ (Utf8.decode s pos).2 := by
  by_cases ha : (s[pos]'h).toNat < 128
  · rw [decode_ascii s pos h ha]; exact Nat.le_refl _
  · exact (decode_high s pos h (by omega)).2
/-- -1 if one of them is none -/
def lenS (s : ByteArray) : Int := if 65533 ∈ runesS s then -1 else ((runesS s).length : Int)
end Go.Proofs.YtmddnklafplikaaDoor
namespace Go.Proofs.YtmddnklafplikaaDoor
open Go.RowKit
set_option linter.unusedVariables false
set_option maxRecDepth 20000
def plainP (c : UInt8) : Prop := 32 < c.toNat ∧ c.toNat ≤ 126 ∧ c.toNat ≠ 34 ∧ c.toNat ≠ 92
instance (c : UInt8) : Decidable (plainP c) := by unfold plainP; infer_instance
def hexU (d : Nat) : UInt8 := UInt8.ofNat (if d < 10 then 48 + d else 87 + d)
def quoU (c : UInt8) : List UInt8 := if plainP c then [c] else [92, hexU (c.toNat / 16), hexU (c.toNat % 16)]
def quoB (l : List UInt8) : List UInt8 := l.flatMap quoU
theorem quoB_snoc (l : List UInt8) (c : UInt8) : quoB (l ++ [c]) = quoB l ++ quoU c := by simp [quoB]
theorem quoU_len (c : UInt8) : (quoU c).length ≤ 3 := by unfold quoU; split <;> simp
theorem quoB_len (l : List UInt8) : (quoB l).length ≤ 3 * l.length := by
  induction l with
  | nil => simp [quoB]
  | cons c l ih =>
    have := quoU_len c
    simp only [quoB, List.flatMap_cons, List.length_append, List.length_cons] at ih ⊢
    omega
/-- a text, quoted -/
def quoS (t : ByteArray) : ByteArray := ⟨(34 :: (quoB t.data.toList ++ [34])).toArray⟩
def hexT : ByteArray := ⟨#[48, 49, 50, 51, 52, 53, 54, 55, 56, 57, 97, 98, 99, 100, 101, 102]⟩
theorem hexT_size : hexT.size = 16 := rfl
theorem hexU_at (d : Nat) (h : d < hexT.size) : hexT[d]'h = hexU d := by
  have key : ∀ d : Fin 16, hexT[d.1]'(by rw [hexT_size]; exact d.2) = hexU d.1 := by decide +kernel
  exact key ⟨d, by rw [hexT_size] at h; exact h⟩
theorem plain_any (c : UInt8) (p : Bool) (w : World) (hp : decide (plainP c) = p) :
    Calls Tryd.prog 23 #[.int .u8 c.toNat] w fun e w' => e = .returned (.bool p) ∧ w = w' := by
  have hb := c.toNat_lt
  have hiff : plainP c ↔ (32 < c.toNat ∧ c.toNat ≤ 126 ∧ c.toNat ≠ 34 ∧ c.toNat ≠ 92) := Iff.rfl
  obtain ⟨n, hn⟩ : ∃ n, c.toNat = n := ⟨_, rfl⟩
  rw [hn] at hb hiff ⊢
  subst hp
  have hc : n ≤ 32 ∨ (32 < n ∧ 126 < n) ∨ n = 34 ∨ n = 92 ∨ (32 < n ∧ n ≤ 126 ∧ n ≠ 34 ∧ n ≠ 92) := by omega
  rcases hc with h | ⟨h, h2⟩ | rfl | rfl | ⟨h, h2, h3, h4⟩
  · rw [decide_eq_false (by rw [hiff]; omega)]
    clear hiff hn
    go_enter Tryd.func23, Tryd.ntmps23
    go_wp2
    go_ret
    exact ⟨rfl, rfl⟩
  · rw [decide_eq_false (by rw [hiff]; omega)]
    clear hiff hn
    go_enter Tryd.func23, Tryd.ntmps23
    go_wp2
    go_ret
    exact ⟨rfl, rfl⟩
  · rw [decide_eq_false (by rw [hiff]; omega)]
    clear hiff hn
    go_enter Tryd.func23, Tryd.ntmps23
    go_wp2
    go_ret
    exact ⟨rfl, rfl⟩
  · rw [decide_eq_false (by rw [hiff]; omega)]
    clear hiff hn
    go_enter Tryd.func23, Tryd.ntmps23
    go_wp2
    go_ret
    exact ⟨rfl, rfl⟩
  · rw [decide_eq_true (by rw [hiff]; omega)]
    clear hiff hn
    have h3' : ((n : Int) != 34) = true := by simp; omega
    have h4' : ((n : Int) != 92) = true := by simp; omega
    go_enter Tryd.func23, Tryd.ntmps23
    go_wp2
    go_ret
    exact ⟨rfl, rfl⟩
end Go.Proofs.YtmddnklafplikaaDoor
namespace Go.Proofs.YtmddnklafplikaaDoor
open Go.RowKit
set_option linter.unusedVariables false
set_option maxRecDepth 20000
theorem bytes_odd (w : World) (s : ByteArray) : (Lib.bytesWorld w 5 s).heap[w.heap.size]? = some (Obj.cells (Lib.bytesCells w 5 s) 5 ((Lib.bytesCells w 5 s).size, (Lib.bytesCells w 5 s).size + 1)) := by
  unfold Lib.bytesWorld World.freeze
  rw [if_neg (by decide)]
  have h := heap_alloc_new w.drew (Obj.cells (Lib.bytesCells w 5 s) 5)
  rw [show w.drew.heap.size = w.heap.size from rfl] at h
  simp only [Array.getElem?_modify]
  rw [h]
  simp
theorem bytes_at (w : World) (s : ByteArray) (i : Nat) (h : i < s.size) : (Lib.bytesCells w 5 s)[i]? = some (.int .u8 (s.data.toList.getD i 0).toNat) := by
  have h2 : i < s.data.size := h
  unfold Lib.bytesCells
  rw [Array.getElem?_append_left (by simpa using h2)]
  simp [List.getD_eq_getElem?_getD, Array.getElem?_eq_getElem h2]
theorem builder_below {B b : Nat} {bs : List Value} {w w' : World} (h : Lib.IsBuilderF 54 5 B b bs w) (hb : Below w.heap.size w w') : Lib.IsBuilderF 54 5 B b bs w' := by
  have key : ∀ p, Lib.BuilderAtF 54 5 B b p bs w → Lib.BuilderAtF 54 5 B b p bs w' := by
    rintro p ⟨hB, v, hbk, hown, hne⟩
    have hlt : b < w.heap.size := by
      rcases Nat.lt_or_ge b w.heap.size with h' | h'
      · exact h'
      · simp [Array.getElem?_eq_none h'] at hbk
    exact ⟨hB, v, by rw [hb.block b hlt]; exact hbk, hown.kept (row := none) ⟨hb.os, hb.tape, hb.output, hb.size, fun k hk _ => hb.block k hk⟩ (by cases hv : v.ownBlock <;> simp), hne⟩
  rcases h with h | h
  · exact Or.inl (key _ h)
  · exact Or.inr (key _ h)
set_option maxRecDepth 100000 in
set_option maxHeartbeats 3200000 in
theorem quote_any (s : ByteArray) (w : World) (hs : s.size ≤ 1048576) :
    Calls Tryd.prog 9 #[.string s] w fun e w' => e = .returned (.string (quoS s)) ∧ Below w.heap.size w w' := by
  obtain ⟨n, hn⟩ : ∃ n, s.size = n := ⟨_, rfl⟩
  have hI := Lib.IsBuilderF.of (Lib.fresh_isBuilder 54 5 w)
  have kc := fun (w : World) (s : ByteArray) => Lib.run_convert_string_bytes (P := Tryd.prog) w 9 52 5 s Tryd.underlying9 Tryd.underlying52 Tryd.underlying5
  go_enter Tryd.func9, Tryd.ntmps9
  go_wp2_with fail
  refine (bbyte_any _ _ [] 34 _ hI (by simp) (by simp)).mono ?_
  rintro e w1 ⟨rfl, hb1, hB1, -⟩
  have hq1 : w.heap.size < w1.heap.size := by have := hB1.size; simp at this; omega
  have X1 := Lib.hid hb1
  have B1 := Lib.hid ((below_one w _).trans hB1)
  clear hb1 hB1 hI
  have hbw : Below w1.heap.size w1 (Lib.bytesWorld w1 5 s) := ⟨rfl, rfl, rfl, by rw [Lib.bytesWorld_size]; omega, fun k hk => Lib.bytesWorld_at_old w1 5 s k hk⟩
  have OD := Lib.hid (bytes_odd w1 s)
  have AT := Lib.hid (fun i hi => bytes_at w1 s i hi)
  have X2 := Lib.hid (builder_below X1.out hbw)
  have B2 := Lib.hid (B1.out.trans (hbw.mono B1.out.size))
  obtain ⟨l, hl⟩ : ∃ l, s.data.toList = l := ⟨_, rfl⟩
  have hln : l.length = n := by rw [← hl, ← hn]; exact Array.length_toList
  have HLN := Lib.hid hln
  rw [hl] at AT
  have HL := Lib.hid hl
  clear hbw X1 B1 hl hln
  go_wp2_with fail
  go_loopw [10] (fun iv wr => ∃ i : Nat, i ≤ n ∧ iv = .int .i64 i ∧ Hid (Lib.IsBuilderF 54 5 w.heap.size w.heap.size (Lib.byteCells (34 :: quoB (l.take i))) wr) ∧ Hid (wr.heap[w1.heap.size]? = some (Obj.cells (Lib.bytesCells w1 5 s) 5 ((Lib.bytesCells w1 5 s).size, (Lib.bytesCells w1 5 s).size + 1))) ∧ Hid (Below w.heap.size w wr)) (fun iv _ => n - (intOf iv).toNat)
  case atStart => exact ⟨0, by omega, rfl, X2, OD, B2⟩
  case round =>
    obtain ⟨i, hi, rfl, hX, hO, hB⟩ := hrel
    by_cases hlt : i < n
    · have x0 := (Lib.cell_of_heap hO.out i).trans (AT.out i (by omega))
      have htk := take_succ_getD l 0 i (by have := HLN.out; omega)
      obtain ⟨c, hc⟩ : ∃ c, l.getD i 0 = c := ⟨_, rfl⟩
      rw [hc] at x0 htk
      have HTK := Lib.hid htk
      obtain ⟨p, hp⟩ : ∃ p, decide (plainP c) = p := ⟨_, rfl⟩
      have HPP := Lib.hid hp
      have CP := Lib.hid (fun w => plain_any c p w hp)
      have hlen : (quoB (l.take i)).length ≤ 3145728 := by
        have h1 := quoB_len (l.take i)
        rw [List.length_take] at h1; omega
      have n1 : (0 : Int) ≤ (i : Int) := by omega
      have n2 : (i : Int) < (n : Int) := by omega
      clear hc htk hp
      go_wp2_with fail
      refine (CP.out _).mono ?_
      rintro e w4 ⟨rfl, rfl⟩
      cases p with
      | true =>
        have hq : quoU c = [c] := by unfold quoU; rw [if_pos (of_decide_eq_true HPP.out)]
        go_wp2_with fail
        refine (bbyte_any _ _ _ c _ hX.out (by simp; omega) hB.out.size).mono ?_
        rintro e w5 ⟨rfl, hb5, hB5, hk5, -⟩
        have B5 := Lib.hid (hB.out.trans hB5)
        have O5 := Lib.hid (hk5 _ _ _ hO.out (by simp))
        have X5 := Lib.hid (show Lib.IsBuilderF 54 5 w.heap.size w.heap.size (Lib.byteCells (34 :: quoB (l.take (i + 1)))) w5 from by rw [HTK.out, quoB_snoc, hq]; exact hb5)
        clear hb5 hB5 hk5
        go_wp2_with fail
        go_roundw
        case rel => exact ⟨i + 1, by omega, by go_num, X5, O5, B5⟩
        case measure => simp [intOf] <;> omega
      | false =>
        have hq : quoU c = [92, hexU (c.toNat / 16), hexU (c.toNat % 16)] := by unfold quoU; rw [if_neg (of_decide_eq_false HPP.out)]
        go_wp2_with fail
        refine (bbyte_any _ _ _ 92 _ hX.out (by simp; omega) hB.out.size).mono ?_
        rintro e w5 ⟨rfl, hb5, hB5, hk5, -⟩
        have B5 := Lib.hid (hB.out.trans hB5)
        have O5 := Lib.hid (hk5 _ _ _ hO.out (by simp))
        have X5 := Lib.hid hb5
        clear hb5 hB5 hk5 hX hO hB
        have hcl : c.toNat < 256 := c.toNat_lt
        obtain ⟨a, ha⟩ : ∃ a, c.toNat / 16 = a := ⟨_, rfl⟩
        obtain ⟨d, hd⟩ : ∃ d, c.toNat % 16 = d := ⟨_, rfl⟩
        have ha16 : a < hexT.size := by rw [hexT_size]; omega
        have hd16 : d < hexT.size := by rw [hexT_size]; omega
        have q1 : (c.toNat : Int) / 16 = (a : Int) := by omega
        have q2 : (c.toNat : Int) % 16 = (d : Int) := by omega
        have h1 : (0 : Int) ≤ (a : Int) := by omega
        have h2 : (a : Int) < 16 := by rw [hexT_size] at ha16; omega
        have h3 : (0 : Int) ≤ (d : Int) := by omega
        have h4 : (d : Int) < 16 := by rw [hexT_size] at hd16; omega
        have e1 := hexU_at a ha16
        have e2 := hexU_at d hd16
        unfold hexT at e1 e2
        rw [ha, hd] at hq
        have HQ := Lib.hid hq
        clear ha hd hq
        have E1 := Lib.hid e1; have E2 := Lib.hid e2
        clear e1 e2
        go_wp2_with fail
        refine (bbyte_any _ _ _ _ _ X5.out (by simp; omega) B5.out.size).mono ?_
        rintro e w6 ⟨rfl, hb6, hB6, hk6, -⟩
        have hb6 : Lib.IsBuilderF 54 5 w.heap.size w.heap.size (Lib.byteCells (34 :: quoB (l.take i) ++ [92] ++ [hexU a])) w6 := by rw [← E1.out]; exact hb6
        have B6 := Lib.hid (B5.out.trans hB6)
        have O6 := Lib.hid (hk6 _ _ _ O5.out (by simp))
        have X6 := Lib.hid hb6
        clear hb6 hB6 hk6 X5 O5 B5
        go_wp2_with fail
        refine (bbyte_any _ _ _ _ _ X6.out (by simp; omega) B6.out.size).mono ?_
        rintro e w7 ⟨rfl, hb7, hB7, hk7, -⟩
        have hb7 : Lib.IsBuilderF 54 5 w.heap.size w.heap.size (Lib.byteCells (34 :: quoB (l.take i) ++ [92] ++ [hexU a] ++ [hexU d])) w7 := by rw [← E2.out]; exact hb7
        have B7 := Lib.hid (B6.out.trans hB7)
        have O7 := Lib.hid (hk7 _ _ _ O6.out (by simp))
        have X7 := Lib.hid (show Lib.IsBuilderF 54 5 w.heap.size w.heap.size (Lib.byteCells (34 :: quoB (l.take (i + 1)))) w7 from by rw [HTK.out, quoB_snoc, HQ.out]; simpa using hb7)
        clear hb7 hB7 hk7 X6 O6 B6
        go_wp2_with fail
        go_roundw
        case rel => exact ⟨i + 1, by omega, by go_num, X7, O7, B7⟩
        case measure => simp [intOf] <;> omega
    · obtain rfl : i = n := by omega
      have X3 := Lib.hid (show Lib.IsBuilderF 54 5 w.heap.size w.heap.size (Lib.byteCells (34 :: quoB l)) wr from by have := hX.out; rwa [List.take_of_length_le (by have := HLN.out; omega)] at this)
      have hlen : (quoB l).length ≤ 3145728 := by
        have h1 := quoB_len l
        have := HLN.out; omega
      clear hX hO
      go_wp2_with fail
      refine (bbyte_any _ _ _ 34 _ X3.out (by simp; omega) hB.out.size).mono ?_
      rintro e w5 ⟨rfl, hb5, hB5, -⟩
      have B5 := Lib.hid (hB.out.trans hB5)
      have X5 := Lib.hid hb5
      clear hb5 hB5 hB
      go_wp2_with fail
      refine (bstring_any _ _ _ _ X5.out B5.out.size).mono ?_
      rintro e w6 ⟨rfl, -, hB6⟩
      go_wp2_with fail
      go_ret
      refine ⟨?_, B5.out.trans hB6⟩
      unfold quoS
      rw [HL.out]
      rfl
end Go.Proofs.YtmddnklafplikaaDoor
namespace Go.Proofs.YtmddnklafplikaaDoor
open Go.RowKit
set_option linter.unusedVariables false
set_option maxRecDepth 20000
def hexV (c : Nat) : Int := if 48 ≤ c ∧ c ≤ 57 then (c : Int) - 48 else if 97 ≤ c ∧ c ≤ 102 then (c : Int) - 87 else -1
theorem hexU_nat (d : Nat) (h : d < 16) : (hexU d).toNat = if d < 10 then 48 + d else 87 + d := by
  unfold hexU
  rw [UInt8.toNat_ofNat']
  split <;> omega
theorem hexV_at (d : Nat) (h : d < 16) : hexV (hexU d).toNat = (d : Int) := by
  rw [hexU_nat d h]; unfold hexV
  by_cases hd : d < 10
  · rw [if_pos hd, if_pos (by omega)]; omega
  · rw [if_neg hd, if_neg (by omega), if_pos (by omega)]; omega
end Go.Proofs.YtmddnklafplikaaDoor
namespace Go.Proofs.YtmddnklafplikaaDoor
open Go.RowKit
set_option linter.unusedVariables false
set_option maxRecDepth 20000
def quoL (l : List UInt8) : List UInt8 := 34 :: (quoB l ++ [34])
theorem quoS_data (t : ByteArray) : (quoS t).data.toList = quoL t.data.toList := rfl
theorem hexU_inj {a b : Nat} (ha : a < 16) (hb : b < 16) (h : hexU a = hexU b) : a = b := by
  have h1 : (hexU a).toNat = (hexU b).toNat := by rw [h]
  rw [hexU_nat a ha, hexU_nat b hb] at h1
  split at h1 <;> split at h1 <;> omega
theorem quoU_inj {c d : UInt8} {X Y : List UInt8} (h : quoU c ++ X = quoU d ++ Y) : c = d ∧ X = Y := by
  unfold quoU at h
  by_cases hc : plainP c
  · by_cases hd : plainP d
    · rw [if_pos hc, if_pos hd] at h
      simpa using h
    · rw [if_pos hc, if_neg hd] at h
      simp only [List.cons_append, List.nil_append, List.cons.injEq] at h
      have := hc.2.2.2
      rw [h.1] at this
      exact absurd rfl this
  · by_cases hd : plainP d
    · rw [if_neg hc, if_pos hd] at h
      simp only [List.cons_append, List.nil_append, List.cons.injEq] at h
      have := hd.2.2.2
      rw [← h.1] at this
      exact absurd rfl this
    · rw [if_neg hc, if_neg hd] at h
      simp only [List.cons_append, List.nil_append, List.cons.injEq] at h
      obtain ⟨_, h1, h2, h3⟩ := h
      have l1 := c.toNat_lt
      have l2 := d.toNat_lt
      have e1 := hexU_inj (by omega) (by omega) h1
      have e2 := hexU_inj (by omega) (by omega) h2
      exact ⟨UInt8.toNat_inj.1 (by omega), h3⟩
theorem quoU_ne (c : UInt8) : quoU c ≠ [] := by unfold quoU; split <;> simp
theorem quoB_cons (c : UInt8) (l : List UInt8) : quoB (c :: l) = quoU c ++ quoB l := by simp [quoB]
theorem quoB_nil : quoB [] = [] := rfl
theorem quoB_inj : ∀ {l m : List UInt8}, quoB l = quoB m → l = m
  | [], [], _ => rfl
  | [], d :: m, h => by
    rw [quoB_cons, quoB_nil] at h
    exact absurd (List.append_eq_nil_iff.1 h.symm).1 (quoU_ne d)
  | c :: l, [], h => by
    rw [quoB_cons, quoB_nil] at h
    exact absurd (List.append_eq_nil_iff.1 h).1 (quoU_ne c)
  | c :: l, d :: m, h => by
    rw [quoB_cons, quoB_cons] at h
    obtain ⟨rfl, h2⟩ := quoU_inj h
    rw [quoB_inj h2]
theorem quoL_inj {l m : List UInt8} (h : quoL l = quoL m) : l = m := by
  unfold quoL at h
  injection h with _ h
  exact quoB_inj (List.append_cancel_right h)
/-- printable, no blank -/
def inkP (c : UInt8) : Prop := 32 < c.toNat ∧ c.toNat ≤ 126
theorem hexU_ink (d : Nat) (h : d < 16) : inkP (hexU d) := by
  unfold inkP; rw [hexU_nat d h]; split <;> omega
theorem quoU_ink (c : UInt8) : ∀ x ∈ quoU c, inkP x := by
  have hl := c.toNat_lt
  unfold quoU
  split
  · rename_i h
    intro x hx
    simp at hx; subst hx
    exact ⟨h.1, h.2.1⟩
  · intro x hx
    simp at hx
    rcases hx with rfl | rfl | rfl
    · unfold inkP; decide
    · exact hexU_ink _ (by omega)
    · exact hexU_ink _ (by omega)
theorem quoB_ink (l : List UInt8) : ∀ x ∈ quoB l, inkP x := by
  intro x hx
  unfold quoB at hx
  obtain ⟨c, _, h⟩ := List.mem_flatMap.1 hx
  exact quoU_ink c x h
theorem quoL_ink (l : List UInt8) : ∀ x ∈ quoL l, inkP x := by
  intro x hx
  unfold quoL at hx
  simp only [List.mem_cons, List.mem_append, List.not_mem_nil, or_false] at hx
  rcases hx with rfl | hx | rfl
  · unfold inkP; decide
  · exact quoB_ink l x hx
  · unfold inkP; decide
theorem ink_no {l : List UInt8} (h : ∀ x ∈ l, inkP x) : (10 : UInt8) ∉ l ∧ (32 : UInt8) ∉ l := by
  refine ⟨fun hx => ?_, fun hx => ?_⟩
  · have := (h _ hx).1; revert this; decide
  · have := (h _ hx).1; revert this; decide
open Classical in
/-- a quoted text, read -/
noncomputable def unqO (l : List UInt8) : Option ByteArray := if h : ∃ t, quoL t = l then some ⟨h.choose.toArray⟩ else none
theorem unqO_quo (t : ByteArray) : unqO (quoL t.data.toList) = some t := by
  unfold unqO
  have h : ∃ u, quoL u = quoL t.data.toList := ⟨_, rfl⟩
  rw [dif_pos h]
  have := quoL_inj h.choose_spec
  rw [this]
theorem unqO_no {l : List UInt8} (h : ∀ t, quoL t ≠ l) : unqO l = none := by
  unfold unqO
  rw [dif_neg]
  rintro ⟨t, ht⟩
  exact h t ht
/-- digits, read behind what has been read -/
def digs : Nat → List UInt8 → Option Nat
  | n, [] => some n
  | n, c :: l => if 48 ≤ c.toNat ∧ c.toNat ≤ 57 then digs (n * 10 + (c.toNat - 48)) l else none
def numO (l : List UInt8) : Option Nat := if l = [] ∨ 6 < l.length ∨ (1 < l.length ∧ l.head? = some 48) then none else digs 0 l
theorem digs_app (l m : List UInt8) : ∀ n, digs n (l ++ m) = (digs n l).bind fun k => digs k m := by
  induction l with
  | nil => intro n; rfl
  | cons c l ih =>
    intro n
    simp only [List.cons_append, digs]
    split
    · exact ih _
    · rfl
theorem digit_nat (d : Nat) (h : d < 10) : (UInt8.ofNat (48 + d)).toNat = 48 + d := by
  rw [UInt8.toNat_ofNat']; omega
theorem digs_dec (u : Nat) : digs 0 (Lib.decDigits u) = some u := by
  induction u using Nat.strongRecOn with
  | ind u ih =>
    rw [Lib.decDigits]
    split
    · rename_i h
      unfold digs
      rw [digit_nat u h, if_pos (by omega)]
      simp [digs]
    · rename_i h
      rw [digs_app, ih (u / 10) (by omega)]
      show digs (u / 10) [UInt8.ofNat (48 + u % 10)] = _
      unfold digs
      rw [digit_nat (u % 10) (by omega), if_pos (by omega)]
      simp only [digs]
      congr 1
      omega
theorem dec_len (u : Nat) (h : u ≤ 999999) : 1 ≤ (Lib.decDigits u).length ∧ (Lib.decDigits u).length ≤ 6 := by
  rw [Lib.decDigits_length]
  refine ⟨Lib.nDigits_pos u, ?_⟩
  have hp := Lib.nDigits_pos u
  by_cases h0 : u = 0
  · subst h0; rw [Lib.nDigits_small (by omega)]; omega
  · rcases Nat.lt_or_ge (Lib.nDigits u) 7 with h7 | h7
    · omega
    · exfalso
      have key : ∀ k, ∀ u, u < 10 ^ (k + 1) → Lib.nDigits u ≤ k + 1 := by
        intro k
        induction k with
        | zero => intro u hu; rw [Lib.nDigits_small (by omega)]; omega
        | succ k ih =>
          intro u hu
          by_cases hb : u < 10
          · rw [Lib.nDigits_small hb]; omega
          · rw [Lib.nDigits_big hb]
            have := ih (u / 10) (by rw [Nat.pow_succ] at hu; omega)
            omega
      have := key 5 u (by omega)
      omega
theorem head_or {l : List UInt8} (h : l ≠ []) {o : Option UInt8} : l.head?.or o = l.head? := by
  cases l with
  | nil => exact absurd rfl h
  | cons x l => rfl
theorem last_app {a r : List UInt8} (h : r ≠ []) : (a ++ r).getLast? = r.getLast? := by
  rw [List.getLast?_append]
  cases hr : r.getLast? with
  | none => exact absurd (List.getLast?_eq_none_iff.1 hr) h
  | some x => rfl
theorem dec_head (u : Nat) : ∀ c, (Lib.decDigits u).head? = some c → (c = 48 → u = 0) ∧ 48 ≤ c.toNat ∧ c.toNat ≤ 57 := by
  induction u using Nat.strongRecOn with
  | ind u ih =>
    intro c hc
    rw [Lib.decDigits] at hc
    split at hc
    · rename_i h
      obtain rfl : UInt8.ofNat (48 + u) = c := by injection hc
      refine ⟨fun e => ?_, ?_⟩
      · have h1 : (UInt8.ofNat (48 + u)).toNat = 48 := by rw [e]; rfl
        rw [digit_nat u h] at h1; omega
      · rw [digit_nat u h]; omega
    · rename_i h
      have hne : Lib.decDigits (u / 10) ≠ [] := by
        intro e
        have := Lib.nDigits_pos (u / 10)
        rw [← Lib.decDigits_length, e] at this
        simp at this
      rw [List.head?_append, head_or hne] at hc
      have h2 := ih (u / 10) (by omega) c hc
      exact ⟨fun e => by have := h2.1 e; omega, h2.2⟩
theorem numO_dec (u : Nat) (h : u ≤ 999999) : numO (Lib.decDigits u) = some u := by
  have hl := dec_len u h
  unfold numO
  rw [if_neg, digs_dec]
  rintro (h1 | h1 | ⟨h1, h2⟩)
  · rw [h1] at hl; simp at hl
  · omega
  · have h3 := (dec_head u _ h2).1 rfl
    subst h3
    rw [Lib.decDigits_length, Lib.nDigits_small (by omega)] at h1
    omega
theorem dec_ink (u : Nat) : ∀ x ∈ Lib.decDigits u, inkP x := by
  induction u using Nat.strongRecOn with
  | ind u ih =>
    intro x hx
    rw [Lib.decDigits] at hx
    split at hx
    · rename_i h
      obtain rfl := List.mem_singleton.1 hx
      unfold inkP
      rw [digit_nat u h]; omega
    · rename_i h
      simp only [List.mem_append, List.mem_cons, List.not_mem_nil, or_false] at hx
      rcases hx with hx | rfl
      · exact ih (u / 10) (by omega) x hx
      · unfold inkP
        rw [digit_nat (u % 10) (by omega)]; omega
def numsO : List (List UInt8) → Option (List Int)
  | [] => some []
  | a :: r => match numO a with
    | none => none
    | some n => match numsO r with
      | none => none
      | some ns => some ((n : Int) :: ns)
theorem numsO_len : ∀ {r : List (List UInt8)} {ns : List Int}, numsO r = some ns → ns.length = r.length
  | [], ns, h => by simp [numsO] at h; subst h; rfl
  | a :: r, ns, h => by
    unfold numsO at h
    split at h
    · cases h
    · split at h
      · cases h
      · rename_i ns' h'
        injection h with h
        subst h
        simp [numsO_len h']
def decI (z : Int) : List UInt8 := Lib.decDigits z.toNat
theorem numsO_dec : ∀ (ns : List Int), (∀ z ∈ ns, 0 ≤ z ∧ z ≤ 999999) → numsO (ns.map decI) = some ns
  | [], _ => rfl
  | z :: ns, h => by
    have hz := h z (by simp)
    simp only [List.map_cons, numsO]
    rw [show numO (decI z) = some z.toNat from numO_dec _ (by omega), numsO_dec ns (fun x hx => h x (by simp [hx]))]
    simp only
    rw [Int.toNat_of_nonneg hz.1]
/-- cut at each byte c -/
def splitL (c : UInt8) : List UInt8 → List (List UInt8)
  | [] => [[]]
  | x :: l => if x = c then [] :: splitL c l else match splitL c l with
    | [] => [[x]]
    | h :: t => (x :: h) :: t
theorem splitL_ne (c : UInt8) : ∀ l, splitL c l ≠ []
  | [] => by simp [splitL]
  | x :: l => by
    unfold splitL
    split
    · simp
    · split <;> simp
theorem splitL_none (c : UInt8) : ∀ l, c ∉ l → splitL c l = [l]
  | [], _ => rfl
  | x :: l, h => by
    have h1 : x ≠ c := fun e => h (by simp [e])
    unfold splitL
    rw [if_neg h1, splitL_none c l (fun hx => h (by simp [hx]))]
theorem splitL_app (c : UInt8) (r : List UInt8) : ∀ l, splitL c (l ++ c :: r) = splitL c l ++ splitL c r
  | [] => by simp [splitL]
  | x :: l => by
    have ih := splitL_app c r l
    by_cases hx : x = c
    · simp only [List.cons_append, splitL, if_pos hx, ih]
    · simp only [List.cons_append, splitL, if_neg hx, ih]
      have hne := splitL_ne c l
      match hs : splitL c l, hne with
      | h :: t, _ => simp
theorem splitL_join (c : UInt8) : ∀ (ps : List (List UInt8)), ps ≠ [] → (∀ p ∈ ps, c ∉ p) → splitL c (Lib.join ps [c]) = ps
  | [], h, _ => absurd rfl h
  | [p], _, h => by
    show splitL c (Lib.join [p] [c]) = [p]
    rw [Lib.join_one]
    exact splitL_none c p (h p (by simp))
  | p :: q :: ps, _, h => by
    have ih := splitL_join c (q :: ps) (by simp) (fun x hx => h x (by simp [hx]))
    have e : Lib.join (p :: q :: ps) [c] = p ++ c :: Lib.join (q :: ps) [c] := by simp [Lib.join]
    rw [e, splitL_app, splitL_none c p (h p (by simp)), ih]
    rfl
def trimN (s : List UInt8) : List UInt8 := if s.getLast? = some 10 then s.dropLast else s
def linesL (s : List UInt8) : List (List UInt8) := if s = [] then [] else splitL 10 (trimN s)
end Go.Proofs.YtmddnklafplikaaDoor
namespace Go.Proofs.YtmddnklafplikaaDoor
open Go.ChangeShapes Go.WideShapes Go.ChangeAt Go.RowKit Go.Deep
set_option linter.unusedVariables false
set_option maxRecDepth 20000
theorem list2 {α : Type} {l : List α} (h : l.length = 2) : ∃ a b, l = [a, b] := by
  match l, h with
  | [a, b], _ => exact ⟨a, b, rfl⟩
theorem open_rows_arg {H : Type} {enc : TypeId × Value → H} {P : Program} {W : World} {base : Nat} {t e : TypeId} {k : Nat} {v : Value} {d : DataW H} {p : List MemPlace}
    (ht : P.underlying t = some (.slice e)) (hc : P.cellsOf e = k) (hk : 0 < k) (good : List Value → Prop)
    (hgood : ∀ m cs y, DataW.trod enc P W 0 (fun _ => true) true m e cs = some y → good cs)
    (o : Value.okWide P W .any base t v) (h : DataW.Trod enc P W 0 (fun _ => true) true t v d p) :
    ∃ (a : Option Addr) (n cap : Nat) (R : Nat → List Value), v = .slice a n cap ∧ (a = none → n = 0 ∧ cap = 0) ∧ n ≤ cap ∧ cap ≤ maxLen ∧ (∀ i, i < n → good (R i)) ∧
      (0 < n → ∃ b o, a = some ⟨b, o, none⟩ ∧ ∀ i, i < n → ∀ j, j < k → W.cell? ⟨b, o + i * k + j, none⟩ = (R i)[j]?) := by
  obtain ⟨a, len, cap, rfl⟩ := okWide_slice ht o
  obtain ⟨fuel, hf⟩ := h
  rcases open_slice ht hf with ⟨hcs, _⟩ | ⟨x, l, c, m, n, D, Pl, hcs, _, hl, hm, hmm, _, hx⟩
  · simp [Value.cells] at hcs
    obtain ⟨rfl, rfl, rfl⟩ := hcs
    exact ⟨none, 0, 0, fun _ => [], rfl, fun _ => ⟨rfl, rfl⟩, Nat.le_refl _, by unfold maxLen; omega, by simp, by simp⟩
  · simp [Value.cells] at hcs
    obtain ⟨rfl, rfl, rfl⟩ := hcs
    simp at hmm
    subst hmm
    rw [hc] at hx
    have hR : ∀ i, ∃ cs' : List Value, i < m → W.cells? 0 (x.add (i * k)) k = some cs' ∧ good cs' := fun i => by
      by_cases hi : i < m
      · obtain ⟨cs', h1, h2⟩ := hx i hi
        exact ⟨cs', fun _ => ⟨h1, hgood _ _ _ h2⟩⟩
      · exact ⟨[], fun h => absurd h hi⟩
    refine ⟨some x, len, m, fun i => (hR i).choose, rfl, (fun h => by cases h), hl, hm, fun i hi => ((hR i).choose_spec (by omega)).2, fun h0 => ?_⟩
    have h1 := fun i (hi : i < m) => (World.cells?_some ((hR i).choose_spec hi).1)
    obtain ⟨b, off, spot⟩ := x
    have hspot : spot = none := by
      have h2 := (h1 0 (by omega)).2.2 0 hk
      have h3 := (h1 0 (by omega)).2.1
      have h4 : ((hR 0).choose)[0]? = some (((hR 0).choose)[0]'(by omega)) := List.getElem?_eq_getElem _
      rw [h4] at h2
      simpa [Addr.add] using World.cell?_spot h2
    subst hspot
    refine ⟨b, off, rfl, fun i hi j hj => ?_⟩
    have h2 := (h1 i (by omega)).2.2 j hj
    rw [← h2, Go.WideShapes.add_plain, Go.WideShapes.add_plain]
/-- the cells of a struct whose fields lie one behind the other, a cell each -/
theorem struct_cells {H : Type} {enc : TypeId × Value → H} {P : Program} {w : World} {base : Nat} {spare : Nat → Bool} {held : Bool} {fuel : Nat} {t : TypeId} {fs : Array Field} {cs : List Value} {x : DataW H × List MemPlace}
    (hs : P.underlying t = some (.struct fs)) (h : DataW.trod enc P w base spare held fuel t cs = some x) :
    cs.length = P.cellsOf t ∧ ∃ n, ∀ (i : Nat) (f : Field), fs[i]? = some f → ∃ y, DataW.trod enc P w base spare held n f.type ((cs.drop f.offset).take (P.cellsOf f.type)) = some y := by
  obtain ⟨xs, n, _, _, hl, hlen, hx⟩ := DataW.trod_struct hs h
  refine ⟨hl, n, fun i f hi => ?_⟩
  have h1 := hx i f hi
  have hlt : i < xs.length := by
    rw [hlen]
    rcases Nat.lt_or_ge i fs.size with h' | h'
    · exact h'
    · rw [Array.getElem?_eq_none h'] at hi; cases hi
  rw [List.getElem?_eq_getElem hlt] at h1
  exact ⟨_, h1⟩
end Go.Proofs.YtmddnklafplikaaDoor
namespace Go.Proofs.YtmddnklafplikaaDoor
open Go.ChangeShapes Go.WideShapes Go.ChangeAt Go.RowKit
set_option linter.unusedVariables false
set_option maxRecDepth 20000
/-- The slice at a of n elements, of one cell each, holds the values xs. -/
def HoldsV (w : World) (a : Option Addr) (n : Nat) (xs : List Value) : Prop :=
  xs.length = n ∧ (0 < n → ∃ b o, a = some ⟨b, o, none⟩ ∧ ∀ i, i < n → w.cell? ⟨b, o + i, none⟩ = some (xs.getD i undef))
theorem HoldsV.below {w w' : World} {a : Option Addr} {n : Nat} {xs : List Value} (h : HoldsV w a n xs) (hb : Below w.heap.size w w') : HoldsV w' a n xs := by
  refine ⟨h.1, fun h0 => ?_⟩
  obtain ⟨b, o, ha, hc⟩ := h.2 h0
  refine ⟨b, o, ha, fun i hi => ?_⟩
  rw [hb.cell (p := ⟨b, o + i, none⟩) (lt_of_cell (hc i hi))]
  exact hc i hi
theorem getD_map_int (k : IntKind) (zs : List Int) (i : Nat) (hi : i < zs.length) : (zs.map (Value.int k)).getD i undef = .int k (zs.getD i 0) := by
  simp [List.getD_eq_getElem?_getD, hi]
theorem HoldsV.cells {w w' : World} {a : Option Addr} {n : Nat} {xs : List Value} (h : HoldsV w a n xs) (hg : w.grownBy w' none) : ∀ ad, a = some ad → ∀ j u, xs[j]? = some u → w'.cell? (ad.add j) = some u := by
  intro ad ha j u hj
  have hlt : j < xs.length := (List.getElem?_eq_some_iff.1 hj).1
  obtain ⟨b, o, hb, hc⟩ := h.2 (by have := h.1; omega)
  rw [ha] at hb
  obtain rfl := Option.some.inj hb
  have h2 := hc j (by have := h.1; omega)
  rw [List.getD_eq_getElem?_getD, hj] at h2
  rw [add_plain]
  exact hg.cell h2 (by simp)
/-- what is owned stays so where what was there stays -/
theorem owns_below {w w' : World} {base : Nat} {e : TypeId} {size : Nat} {v : Value} {n : Nat} {xs : List Value} (h : w.ownsRow base e size v n xs) (hb : Below w.heap.size w w') : w'.ownsRow base e size v n xs := by
  refine ⟨h.1, ?_⟩
  rcases h.2 with h0 | ⟨g, cap, cur, hv, hg, hh, r⟩
  · exact Or.inl h0
  · exact Or.inr ⟨g, cap, cur, hv, hg, by rw [hb.block g (Array.getElem?_eq_some_iff.1 hh).1]; exact hh, r⟩
theorem owns_none {w : World} {base : Nat} {e : TypeId} {size : Nat} {a : Option Addr} {n c : Nat} {xs : List Value} (h : w.ownsRow base e size (.slice a n c) n xs) : (a = none → n = 0 ∧ c = 0) ∧ n ≤ c := by
  rcases h.2 with ⟨hv, hn⟩ | ⟨g, cap, cur, hv, _, _, hc, _⟩
  · simp only [Value.slice.injEq] at hv
    obtain ⟨_, rfl, rfl⟩ := hv
    exact ⟨fun _ => ⟨rfl, rfl⟩, Nat.le_refl _⟩
  · simp only [Value.slice.injEq] at hv
    obtain ⟨rfl, _, rfl⟩ := hv
    exact ⟨(fun h => by cases h), hc⟩
/-- What is owned reads so. -/
theorem owns_holds {w : World} {base : Nat} {e : TypeId} {a : Option Addr} {n c : Nat} {xs : List Value} (h : w.ownsRow base e 1 (.slice a n c) n xs) : HoldsV w a n xs := by
  have hl : xs.length = n := by simpa using h.1
  refine ⟨hl, fun h0 => ?_⟩
  rcases h.2 with ⟨_, h1⟩ | ⟨g, cap, cur, hv, _, hh, hc, _, hs, hx⟩
  · omega
  · simp only [Value.slice.injEq] at hv
    obtain ⟨rfl, _, rfl⟩ := hv
    refine ⟨g, 0, rfl, fun i hi => ?_⟩
    rw [Nat.zero_add, Joins.cell_of_block hh]
    rw [Nat.mul_one] at hx
    rw [List.getD_eq_getElem?_getD, ← hx, List.getElem?_take, if_pos hi]
    have hlt : i < cur.size := by omega
    simp [hlt]
/-- one new cell, to be appended -/
theorem one_new (w : World) (v : Value) (e : TypeId) (fr : Nat × Nat) : ∀ ad, (some ⟨w.heap.size, 0, none⟩ : Option Addr) = some ad → ∀ j u, [v][j]? = some u → (w.alloc (.cells #[v] e fr)).cell? (ad.add j) = some u := by
  intro ad ha j u hj
  obtain rfl := Option.some.inj ha
  match j, hj with
  | 0, hj =>
    simp at hj; subst hj
    rw [add_plain, World.cell?_alloc_mark]; rfl
theorem one_int (k : IntKind) (x : Int) : ∀ u ∈ [Value.int k x], u.oneCell' = true := by simp [Value.oneCell']
theorem one_str (x : ByteArray) : ∀ u ∈ [Value.string x], u.oneCell' = true := by simp [Value.oneCell']
theorem some_none {p : Prop} (a : Addr) : (some a = none) → p := fun h => by cases h
/-- 'append(v, x...)', v nil or the call's own, x whatever slice (nil too): the value is a slice of the call's own. -/
theorem wpList_append_any {P : Program} {w : World} {ops : Array Oper} {rest : List Oper} {o : Oper} {a : Act} {Q : Exit → Act → World → Prop} (hgd : o.guard = none) (s x : Operand) (t : TypeId)
    (ho : o.op = .call { callee := .builtin .append, args := #[s, x], argTypes := #[t, t] })
    (base : Nat) (e : TypeId) (i : TypeInfo) (z : Value) (size bytes : Nat) (ht : P.underlying t = some (.slice e)) (hi : P.info? e = some i) (hz : i.zero = some z)
    (hsize : i.size = size) (hby : i.bytes = bytes) (hzs : z.cells.size = size) (hsz : 0 < size)
    (v : Value) (n : Nat) (xs : List Value) (hs : a.eval s = v) (hown : w.ownsRow base e size v n xs)
    (ao : Option Addr) (m c : Nat) (news : List Value) (hx : a.eval x = .slice ao m c) (hnone : ao = none → m = 0 ∧ c = 0) (hl : news.length = m * size)
    (hnews : ∀ ad, ao = some ad → ∀ j u, news[j]? = some u → w.cell? (ad.add j) = some u) (h1 : ∀ u ∈ news, u.oneCell' = true)
    (h63 : n + m ≤ maxLen) (hbytes : (n + m) * bytes ≤ 140737488355328) (hbase : base ≤ w.heap.size)
    (h : ∀ a' c' w', w'.ownsRow base e size (.slice a' (n + m) c') (n + m) (xs ++ news) → Below base w w' → (a' = none → n + m = 0 ∧ c' = 0) → wpList P ops Q rest (a.put o.dst (.slice a' (n + m) c')) w') : wpList P ops Q (o :: rest) a w := by
  have fin : ∀ v' w', w'.ownsRow base e size v' (n + m) (xs ++ news) → Below base w w' → wpList P ops Q rest (a.put o.dst v') w' := by
    intro v' w' ho' hb'
    rcases Joins.ownsRow_forms ho' with ⟨rfl, h0⟩ | ⟨g, cap, rfl⟩
    · have := h none 0 w' (by rw [h0] at ho' ⊢; exact ho') hb' (fun _ => ⟨h0, rfl⟩)
      rw [h0] at this
      exact this
    · exact h _ _ w' ho' hb' (fun h => by cases h)
  cases ao with
  | some ad =>
    refine wpList_append_own w hgd s x t ho base e i z size bytes ht hi hz hsize hby hzs hsz v n xs hs hown ad m c news hx hl (hnews ad rfl) h1 h63 hbytes hbase fun v' w' h2 h3 _ => ?_
    exact fin v' w' h2 ((Below.refl base w).grown h3 hbase fun k hk => (hown.lt k hk).1)
  | none =>
    obtain ⟨rfl, rfl⟩ := hnone rfl
    have hn : news = [] := List.eq_nil_of_length_eq_zero (by simpa using hl)
    subst hn
    exact wpList_append_own_none hgd s x t ho base e i size ht hi v n xs hs hown hx (fin v w (by simpa using hown) (Below.refl _ _))
end Go.Proofs.YtmddnklafplikaaDoor
namespace Go.Proofs.YtmddnklafplikaaDoor
open Go.RowKit
set_option linter.unusedVariables false
set_option maxRecDepth 20000
structure EvP where
  kd : Int
  nd : Int
  pl : Int
  x : Int
  text : ByteArray
  k : Int
  n : Int
def ev0 : EvP := ⟨0, 0, 0, 0, ⟨#[]⟩, 0, 0⟩
def cellsEv (x : EvP) : List Value := [(.int .i64 x.kd), (.int .i64 x.nd), (.int .i64 x.pl), (.int .i64 x.x), (.string x.text), (.int .i64 x.k), (.int .i64 x.n)]
def HoldsEv (w : World) (a : Option Addr) (n : Nat) (ks : List EvP) : Prop := ks.length = n ∧ (0 < n → ∃ b o, a = some ⟨b, o, none⟩ ∧ ∀ i, i < n → w.cell? ⟨b, o + i * 7, none⟩ = some (.int .i64 (ks.getD i ev0).kd) ∧ w.cell? ⟨b, o + i * 7 + 1, none⟩ = some (.int .i64 (ks.getD i ev0).nd) ∧ w.cell? ⟨b, o + i * 7 + 2, none⟩ = some (.int .i64 (ks.getD i ev0).pl) ∧ w.cell? ⟨b, o + i * 7 + 3, none⟩ = some (.int .i64 (ks.getD i ev0).x) ∧ w.cell? ⟨b, o + i * 7 + 4, none⟩ = some (.string (ks.getD i ev0).text) ∧ w.cell? ⟨b, o + i * 7 + 5, none⟩ = some (.int .i64 (ks.getD i ev0).k) ∧ w.cell? ⟨b, o + i * 7 + 6, none⟩ = some (.int .i64 (ks.getD i ev0).n))
theorem HoldsEv.at {w : World} {a : Option Addr} {n : Nat} {ks : List EvP} (h : HoldsEv w a n ks) (h0 : 0 < n) : ∃ b o, a = some ⟨b, o, none⟩ ∧ ∀ i, i < n → w.cell? ⟨b, o + i * 7, none⟩ = some (.int .i64 (ks.getD i ev0).kd) ∧ w.cell? ⟨b, o + i * 7 + 1, none⟩ = some (.int .i64 (ks.getD i ev0).nd) ∧ w.cell? ⟨b, o + i * 7 + 2, none⟩ = some (.int .i64 (ks.getD i ev0).pl) ∧ w.cell? ⟨b, o + i * 7 + 3, none⟩ = some (.int .i64 (ks.getD i ev0).x) ∧ w.cell? ⟨b, o + i * 7 + 4, none⟩ = some (.string (ks.getD i ev0).text) ∧ w.cell? ⟨b, o + i * 7 + 5, none⟩ = some (.int .i64 (ks.getD i ev0).k) ∧ w.cell? ⟨b, o + i * 7 + 6, none⟩ = some (.int .i64 (ks.getD i ev0).n) := h.2 h0
theorem HoldsEv.below {w w' : World} {a : Option Addr} {n : Nat} {ks : List EvP} (h : HoldsEv w a n ks) (hb : Below w.heap.size w w') : HoldsEv w' a n ks := by
  refine ⟨h.1, fun h0 => ?_⟩
  obtain ⟨b, o, ha, hc⟩ := h.2 h0
  have hlt := lt_of_cell (hc 0 h0).1
  refine ⟨b, o, ha, fun i hi => ?_⟩
  rw [hb.cell (p := ⟨b, o + i * 7, none⟩) hlt, hb.cell (p := ⟨b, o + i * 7 + 1, none⟩) hlt, hb.cell (p := ⟨b, o + i * 7 + 2, none⟩) hlt, hb.cell (p := ⟨b, o + i * 7 + 3, none⟩) hlt, hb.cell (p := ⟨b, o + i * 7 + 4, none⟩) hlt, hb.cell (p := ⟨b, o + i * 7 + 5, none⟩) hlt, hb.cell (p := ⟨b, o + i * 7 + 6, none⟩) hlt]
  exact hc i hi
theorem getD_memEv (zs : List EvP) (j : Nat) (h : j < zs.length) : zs.getD j ev0 ∈ zs := by
  rw [List.getD_eq_getElem?_getD, List.getElem?_eq_getElem h]; simp
def evsV : List EvP → List Value
  | [] => []
  | k :: ks => (.int .i64 k.kd) :: (.int .i64 k.nd) :: (.int .i64 k.pl) :: (.int .i64 k.x) :: (.string k.text) :: (.int .i64 k.k) :: (.int .i64 k.n) :: evsV ks
theorem evsV_len : ∀ ks : List EvP, (evsV ks).length = ks.length * 7
  | [] => rfl
  | k :: ks => by simp [evsV, evsV_len ks]; omega
theorem evsV_app : ∀ ks ls : List EvP, evsV (ks ++ ls) = evsV ks ++ evsV ls
  | [], ls => rfl
  | k :: ks, ls => by simp [evsV, evsV_app ks ls]
theorem evsV_at : ∀ (ks : List EvP) (i : Nat), i < ks.length → (evsV ks)[i * 7]? = some (.int .i64 (ks.getD i ev0).kd) ∧ (evsV ks)[i * 7 + 1]? = some (.int .i64 (ks.getD i ev0).nd) ∧ (evsV ks)[i * 7 + 2]? = some (.int .i64 (ks.getD i ev0).pl) ∧ (evsV ks)[i * 7 + 3]? = some (.int .i64 (ks.getD i ev0).x) ∧ (evsV ks)[i * 7 + 4]? = some (.string (ks.getD i ev0).text) ∧ (evsV ks)[i * 7 + 5]? = some (.int .i64 (ks.getD i ev0).k) ∧ (evsV ks)[i * 7 + 6]? = some (.int .i64 (ks.getD i ev0).n)
  | [], i, h => by simp at h
  | k :: ks, 0, _ => by simp [evsV]
  | k :: ks, i + 1, h => by
    have ih := evsV_at ks i (by simpa using h)
    have e1 : (i + 1) * 7 = i * 7 + 1 + 1 + 1 + 1 + 1 + 1 + 1 := by omega
    rw [e1]
    simpa [evsV] using ih
theorem evsV_snoc (ks : List EvP) (k : EvP) : evsV (ks ++ [k]) = evsV ks ++ cellsEv k := by rw [evsV_app]; rfl
theorem HoldsEv.own {w : World} {B : Nat} {e : TypeId} {a : Option Addr} {n c : Nat} {ks : List EvP} (h : w.ownsRow B e 7 (.slice a n c) n (evsV ks)) : HoldsEv w a n ks := by
  have hl : ks.length = n := by have := h.1; rw [evsV_len] at this; omega
  refine ⟨hl, fun h0 => ?_⟩
  rcases h.2 with ⟨_, h1⟩ | ⟨g, cap, cur, hv, _, hh, hc, _, hs, hx⟩
  · omega
  · simp only [Value.slice.injEq] at hv
    obtain ⟨rfl, _, rfl⟩ := hv
    refine ⟨g, 0, rfl, fun i hi => ?_⟩
    obtain ⟨v0, v1, v2, v3, v4, v5, v6⟩ := evsV_at ks i (by omega)
    rw [← hx] at v0 v1 v2 v3 v4 v5 v6
    rw [List.getElem?_take_of_lt (by omega)] at v0 v1 v2 v3 v4 v5 v6
    rw [Array.getElem?_toList] at v0 v1 v2 v3 v4 v5 v6
    rw [Nat.zero_add, Joins.cell_of_block hh, Joins.cell_of_block hh, Joins.cell_of_block hh, Joins.cell_of_block hh, Joins.cell_of_block hh, Joins.cell_of_block hh, Joins.cell_of_block hh]
    exact ⟨v0, v1, v2, v3, v4, v5, v6⟩
end Go.Proofs.YtmddnklafplikaaDoor
namespace Go.Proofs.YtmddnklafplikaaDoor
open Go.ChangeShapes Go.WideShapes Go.ChangeAt Go.RowKit
open Go.ChangeMaps (open_string shut_string)
set_option linter.unusedVariables false
set_option maxRecDepth 20000
theorem i64_of_wf {z : Int} (h : (Lit.int .i64 z).wf = true) : -9223372036854775808 ≤ z ∧ z ≤ 9223372036854775807 := by
  simp [Lit.wf, IntKind.min, IntKind.max, IntKind.signed, IntKind.bits] at h; omega
end Go.Proofs.YtmddnklafplikaaDoor
namespace Go.Proofs.YtmddnklafplikaaDoor
open Go.RowKit
set_option linter.unusedVariables false
set_option maxRecDepth 20000
/-- which list of bytes is ahead -/
def cmpL (x y : List UInt8) : Int := if Op.bytesLess x y = true then -1 else if (x == y) = true then 0 else 1
def cmpS (a b : ByteArray) : Int := cmpL a.toList b.toList
theorem toList_inj {a b : ByteArray} (h : a.toList = b.toList) : a = b := by
  rw [ByteArray.toList_eq, ByteArray.toList_eq] at h
  exact ByteArray.ext (Array.toList_inj.1 h)
end Go.Proofs.YtmddnklafplikaaDoor
namespace Go.Proofs.YtmddnklafplikaaDoor
set_option linter.unusedVariables false
set_option maxRecDepth 20000
abbrev Tx := ByteArray
instance (t : Tx) (ts : List Tx) : Decidable (t ∈ ts) := decidable_of_iff (ts.any (fun x => decide (x = t)) = true) (by simp)
def wordP (t : Tx) : Prop := 1 ≤ lenS t ∧ lenS t ≤ 12
instance (t : Tx) : Decidable (wordP t) := by unfold wordP; infer_instance
def SortedS (xs : List Tx) : Prop := xs.Pairwise fun a b => cmpS a b < 0
instance (l : List Tx) : Decidable (SortedS l) := by unfold SortedS; infer_instance
end Go.Proofs.YtmddnklafplikaaDoor
namespace Go.Proofs.YtmddnklafplikaaDoor
open Go.RowKit
set_option linter.unusedVariables false
set_option maxRecDepth 20000
def strsV (ts : List Tx) : List Value := ts.map Value.string
def HoldsT (w : World) (a : Option Addr) (n : Nat) (ts : List Tx) : Prop := HoldsV w a n (strsV ts)
theorem HoldsT.len {w : World} {a : Option Addr} {n : Nat} {ts : List Tx} (h : HoldsT w a n ts) : ts.length = n := by simpa [strsV] using h.1
theorem getD_map_str (ts : List Tx) (i : Nat) (hi : i < ts.length) : (strsV ts).getD i undef = .string (ts.getD i ByteArray.empty) := by
  simp [strsV, List.getD_eq_getElem?_getD, hi]
theorem HoldsT.at {w : World} {a : Option Addr} {n : Nat} {ts : List Tx} (h : HoldsT w a n ts) (h0 : 0 < n) : ∃ b o, a = some ⟨b, o, none⟩ ∧ ∀ i, i < n → w.cell? ⟨b, o + i, none⟩ = some (.string (ts.getD i ByteArray.empty)) := by
  obtain ⟨b, o, ha, hc⟩ := h.2 h0
  exact ⟨b, o, ha, fun i hi => by rw [hc i hi, getD_map_str ts i (by rw [h.len]; exact hi)]⟩
theorem HoldsT.of {w : World} {b o n : Nat} {ts : List Tx} (hl : ts.length = n) (hc : ∀ i, i < n → w.cell? ⟨b, o + i, none⟩ = some (.string (ts.getD i ByteArray.empty))) : HoldsT w (some ⟨b, o, none⟩) n ts :=
  ⟨by simpa [strsV] using hl, fun _ => ⟨b, o, rfl, fun i hi => by rw [hc i hi, getD_map_str ts i (by omega)]⟩⟩
theorem HoldsT.nil (w : World) (a : Option Addr) : HoldsT w a 0 [] := ⟨rfl, fun h => absurd h (by omega)⟩
theorem HoldsT.below {w w' : World} {a : Option Addr} {n : Nat} {ts : List Tx} (h : HoldsT w a n ts) (hb : Below w.heap.size w w') : HoldsT w' a n ts := HoldsV.below h hb
theorem HoldsT.drop {w : World} {b o n : Nat} {ts : List Tx} (h : HoldsT w (some ⟨b, o, none⟩) n ts) (j : Nat) (hj : j ≤ n) : HoldsT w (some ⟨b, o + j, none⟩) (n - j) (ts.drop j) := by
  refine HoldsT.of (by rw [List.length_drop, h.len]) fun i hi => ?_
  obtain ⟨b', o', ha, hc⟩ := h.at (by omega)
  cases ha
  rw [Nat.add_assoc, hc (j + i) (by omega)]
  simp [List.getD_eq_getElem?_getD]
theorem HoldsT.own {w : World} {B : Nat} {e : TypeId} {a : Option Addr} {n c : Nat} {ts : List Tx} (h : w.ownsRow B e 1 (.slice a n c) n (strsV ts)) : HoldsT w a n ts := owns_holds h
theorem strsV_snoc (ts : List Tx) (t : Tx) : strsV (ts ++ [t]) = strsV ts ++ [Value.string t] := by simp [strsV]
theorem str_same (x : Tx) : (x.toList == x.toList) = true := by simp
theorem str_other {x y : Tx} (h : x ≠ y) : (x.toList == y.toList) = false := by
  rw [beq_eq_false_iff_ne]; exact fun e => h (toList_inj e)
set_option maxHeartbeats 400000 in
theorem sameTexts_any (a1 a2 : Option Addr) (n1 c1 n2 c2 : Nat) (z1 z2 : List Tx) (w : World) (h1 : HoldsT w a1 n1 z1) (h2 : HoldsT w a2 n2 z2) (hl1 : n1 ≤ 4611686018427387904) (hl2 : n2 ≤ 4611686018427387904) :
    Calls Tryd.prog 21 #[.slice a1 n1 c1, .slice a2 n2 c2] w fun e w' => e = .returned (.bool (decide (z1 = z2))) ∧ ∃ m, w' = w.drewN m := by
  have g1 := h1.len
  have g2 := h2.len
  have g1' := fun h0 => h1.at h0
  have g2' := fun h0 => h2.at h0
  clear h1 h2
  by_cases hn : n1 = n2
  · subst hn
    rcases Nat.eq_zero_or_pos n1 with h0 | h0
    · subst h0
      clear g1' g2'
      obtain rfl := List.eq_nil_of_length_eq_zero g1
      obtain rfl := List.eq_nil_of_length_eq_zero g2
      go_enter Tryd.func21, Tryd.ntmps21
      go_wp2
      go_loop [5] (fun i => i = .int .i64 0) (fun _ => 0)
      case atStart => rfl
      case round =>
        obtain rfl := hrel
        go_wp2
        go_ret
        exact ⟨rfl, 0, rfl⟩
    · obtain ⟨b1, o1, rfl, k1⟩ := g1' h0
      obtain ⟨b2, o2, rfl, k2⟩ := g2' h0
      clear g1' g2'
      have G1 := Lib.hid g1; have G2 := Lib.hid g2; have K1 := Lib.hid k1; have K2 := Lib.hid k2
      clear g1 g2 k1 k2
      go_enter Tryd.func21, Tryd.ntmps21
      go_wp2
      go_loopw [5] (fun i wr => ∃ k m : Nat, k ≤ n1 ∧ i = .int .i64 k ∧ z1.take k = z2.take k ∧ wr = w.drewN m) (fun i _ => n1 - (intOf i).toNat)
      case atStart => exact ⟨0, 0, by omega, rfl, rfl, rfl⟩
      case round =>
        obtain ⟨k, m, hk, rfl, he, rfl⟩ := hrel
        have HE := Lib.hid he
        clear he
        by_cases hlt : k < n1
        · have e1 := K1.out k hlt
          have e2 := K2.out k hlt
          obtain ⟨x, hx⟩ : ∃ x, z1.getD k ByteArray.empty = x := ⟨_, rfl⟩
          obtain ⟨y, hy⟩ : ∃ y, z2.getD k ByteArray.empty = y := ⟨_, rfl⟩
          rw [hx] at e1; rw [hy] at e2
          have HX := Lib.hid hx; have HY := Lib.hid hy
          clear hx hy
          by_cases hxy : x = y
          · subst hxy
            have hb := str_same x
            go_wp2
            go_quiet (fail)
            go_wp2
            go_roundw
            case rel => exact ⟨k + 1, _, by omega, by go_num, by rw [take_succ_getD z1 ByteArray.empty k (by rw [G1.out]; exact hlt), take_succ_getD z2 ByteArray.empty k (by rw [G2.out]; exact hlt), HE.out, HX.out, HY.out], rfl⟩
            case measure => simp [intOf]; omega
          · have hb := str_other hxy
            have HXY := Lib.hid hxy
            clear hxy
            go_wp2
            go_quiet (fail)
            go_wp2
            go_ret
            exact ⟨ret_bool (by symm; rw [decide_eq_false_iff_not]; exact take_ne_of_getD ByteArray.empty k (by rw [HX.out, HY.out]; exact HXY.out)), _, World.drewN_drewN _ _ _⟩
        · have hkn : k = n1 := by omega
          have HK := Lib.hid hkn
          clear hkn
          go_wp2
          go_ret
          exact ⟨ret_bool (by symm; rw [decide_eq_true_iff]; exact take_eq_all (n := k) HE.out (by rw [G1.out, HK.out]) (by rw [G2.out, HK.out])), _, rfl⟩
  · have hb : ((n1 : Int) != (n2 : Int)) = true := by simp; omega
    clear g1' g2'
    have HN := Lib.hid hn; have G1 := Lib.hid g1; have G2 := Lib.hid g2
    clear hn g1 g2
    go_enter Tryd.func21, Tryd.ntmps21
    go_wp2
    go_ret
    exact ⟨ret_bool (by symm; rw [decide_eq_false_iff_not]; intro e; exact HN.out (by rw [← G1.out, ← G2.out, e])), 0, rfl⟩
theorem sameTexts_yes (a1 a2 : Option Addr) (n c1 c2 : Nat) (z : List Tx) (w : World) (h1 : HoldsT w a1 n z) (h2 : HoldsT w a2 n z) (hl : n ≤ 4611686018427387904) :
    Calls Tryd.prog 21 #[.slice a1 n c1, .slice a2 n c2] w fun e w' => e = .returned (.bool true) ∧ Below w.heap.size w w' := by
  have := sameTexts_any a1 a2 n c1 n c2 z z w h1 h2 hl hl
  rw [decide_eq_true rfl] at this
  refine this.mono ?_
  rintro e w' ⟨rfl, m, rfl⟩
  exact ⟨rfl, below_drewN _ _⟩
end Go.Proofs.YtmddnklafplikaaDoor
namespace Go.Proofs.YtmddnklafplikaaDoor
open Go.ChangeShapes Go.WideShapes Go.ChangeAt Go.RowKit
set_option linter.unusedVariables false
set_option maxRecDepth 20000
abbrev KV := Int × Tx
def k0 : KV := (0, ByteArray.empty)
def HoldsK (w : World) (a : Option Addr) (n : Nat) (ks : List KV) : Prop := ks.length = n ∧ (0 < n → ∃ b o, a = some ⟨b, o, none⟩ ∧ ∀ i, i < n → w.cell? ⟨b, o + i * 2, none⟩ = some (.int .i64 (ks.getD i k0).1) ∧ w.cell? ⟨b, o + i * 2 + 1, none⟩ = some (.string (ks.getD i k0).2))
theorem HoldsK.below {w w' : World} {a : Option Addr} {n : Nat} {ks : List KV} (h : HoldsK w a n ks) (hb : Below w.heap.size w w') : HoldsK w' a n ks := by
  refine ⟨h.1, fun h0 => ?_⟩
  obtain ⟨b, o, ha, hc⟩ := h.2 h0
  have hlt := lt_of_cell (hc 0 h0).1
  refine ⟨b, o, ha, fun i hi => ?_⟩
  rw [hb.cell (p := ⟨b, o + i * 2, none⟩) hlt, hb.cell (p := ⟨b, o + i * 2 + 1, none⟩) hlt]
  exact hc i hi
def i64okK (z : Int) : Prop := -9223372036854775808 ≤ z ∧ z ≤ 9223372036854775807
def KeyOk (k : KV) : Prop := i64okK k.1 ∧ k.2.size ≤ 9223372036854775807
theorem cellsK_int : Tryd.prog.cellsOf 3 = 1 := by kernel_rfl
theorem cellsK_str : Tryd.prog.cellsOf 9 = 1 := by kernel_rfl
theorem pair_of {H : Type} {enc : TypeId × Value → H} {w : World} {base : Nat} {spare : Nat → Bool} {held : Bool} {fuel : Nat} {t : TypeId} {fs : Array Field} {f0 f1 : Field} {cs : List Value} {x : DataW H × List MemPlace}
    (ht : Tryd.prog.underlying t = some (.struct fs)) (hc : Tryd.prog.cellsOf t = 2) (hf0 : fs[0]? = some f0) (hf1 : fs[1]? = some f1) (g0 : f0.type = 3 ∧ f0.offset = 0) (g1 : f1.type = 9 ∧ f1.offset = 1)
    (h : DataW.trod enc Tryd.prog w base spare held fuel t cs = some x) : ∃ k : KV, KeyOk k ∧ cs = [.int .i64 k.1, .string k.2] := by
  obtain ⟨hl, n, hf⟩ := struct_cells ht h
  rw [hc] at hl
  obtain ⟨c0, c1, rfl⟩ : ∃ c0 c1, cs = [c0, c1] := list2 hl
  obtain ⟨y0, z0⟩ := hf 0 _ hf0
  obtain ⟨y1, z1⟩ := hf 1 _ hf1
  rw [g0.1, g0.2] at z0
  rw [g1.1, g1.2] at z1
  obtain ⟨q1, h1, _, b1⟩ := DataW.trod_int Tryd.underlying3 z0
  obtain ⟨s1, h2, _, b2⟩ := DataW.trod_string Tryd.underlying9 z1
  simp [cellsK_int, cellsK_str] at h1 h2
  subst h1 h2
  exact ⟨(q1, s1), ⟨i64_of_wf b1, by unfold maxLen at b2; exact b2⟩, rfl⟩
def ordK (a b : KV) : Int := if a.1 < b.1 then -1 else if b.1 < a.1 then 1 else cmpS a.2 b.2
end Go.Proofs.YtmddnklafplikaaDoor
namespace Go.Proofs.YtmddnklafplikaaDoor
open Go.RowKit
set_option linter.unusedVariables false
set_option maxRecDepth 20000
structure PS where
  ws : List Tx
  ks : List KV
  ns : List Int
  es : List EvP
def ps0 : PS := ⟨[], [], [0, 0, 0, 0, 0, 0, 0, 0, 0, 0], []⟩
def wordB : List UInt8 := [119, 111, 114, 100]
def cutB : List UInt8 := [99, 117, 116]
def setB : List UInt8 := [115, 101, 116]
def evB : List UInt8 := [101, 118]
def askB : List UInt8 := [97, 115, 107]
noncomputable def wordF (st : PS) (r : List (List UInt8)) : Option PS := match r with
  | [a] => match unqO a with
    | some t => some { st with ws := st.ws ++ [t] }
    | none => none
  | _ => none
noncomputable def cutF (st : PS) (r : List (List UInt8)) : Option PS := match r with
  | [a, b] => match numO a, unqO b with
    | some n, some t => some { st with ks := st.ks ++ [((n : Int), t)] }
    | _, _ => none
  | _ => none
def numsK (r : List (List UInt8)) (k : Nat) : Option (List Int) := if r.length = k then numsO r else none
def setF (st : PS) (r : List (List UInt8)) : Option PS := match numsK r 10 with
  | some ns => some { st with ns := ns }
  | none => none
def evF (st : PS) (r : List (List UInt8)) : Option PS := match numsK r 4 with
  | some ns => if ns.getD 0 0 = 1 then none else some { st with es := st.es ++ [⟨ns.getD 0 0, ns.getD 1 0, ns.getD 2 0, ns.getD 3 0, ⟨#[]⟩, 0, 0⟩] }
  | none => none
noncomputable def askF (st : PS) (r : List (List UInt8)) : Option PS := match r with
  | [a, b, c] => match unqO a, numsK [b, c] 2 with
    | some t, some ns => some { st with es := st.es ++ [⟨1, 0, 0, 0, t, ns.getD 0 0, ns.getD 1 0⟩] }
    | _, _ => none
  | _ => none
noncomputable def partsF (st : PS) (k : List UInt8) (r : List (List UInt8)) : Option PS :=
  if k = wordB then wordF st r else if k = cutB then cutF st r else if k = setB then setF st r else if k = evB then evF st r else if k = askB then askF st r else none
noncomputable def lineF (st : PS) (l : List UInt8) : Option PS := match splitL 32 l with
  | k :: r => partsF st k r
  | [] => none
noncomputable def readF : PS → Nat → List (List UInt8) → PS × Nat
  | st, _, [] => (st, 0)
  | st, i, l :: r => match lineF st l with
    | some st' => readF st' (i + 1) r
    | none => (ps0, i + 1)
noncomputable def parseF (s : List UInt8) : PS × Nat × Nat := if 65536 < s.length then (ps0, 0, 3) else match readF ps0 0 (linesL s) with
  | (st, 0) => (st, 0, 0)
  | (_, k + 1) => (ps0, k + 1, 11)
def numQ (z : Int) : Bool := decide (0 ≤ z ∧ z ≤ 999999)
def numsQ (ns : List Int) : Bool := ns.all numQ
def nosEv (e : EvP) : List Int := [e.kd, e.nd, e.pl, e.x]
def mayEv (e : EvP) : Bool := if e.kd = 1 then decide (e.nd = 0 ∧ e.pl = 0 ∧ e.x = 0) && (numQ e.k && numQ e.n) else decide (e.text = ⟨#[]⟩ ∧ e.k = 0 ∧ e.n = 0) && numsQ (nosEv e)
def mayPr (st : PS) : Bool := st.ks.all (fun k => numQ k.1) && (numsQ st.ns && st.es.all mayEv)
def wordQ (t : Tx) : List (List UInt8) := [wordB, quoL t.data.toList]
def cutQ (k : KV) : List (List UInt8) := [cutB, decI k.1, quoL k.2.data.toList]
def setQ (ns : List Int) : List (List UInt8) := setB :: ns.map decI
def evQ (e : EvP) : List (List UInt8) := if e.kd = 1 then [askB, quoL e.text.data.toList, decI e.k, decI e.n] else evB :: (nosEv e).map decI
def lineB (ps : List (List UInt8)) : List UInt8 := Lib.join ps [32]
def endB (ps : List (List UInt8)) : List UInt8 := lineB ps ++ [10]
def printLs (st : PS) : List (List (List UInt8)) := st.ws.map wordQ ++ (st.ks.map cutQ ++ (setQ st.ns :: st.es.map evQ))
def printB (st : PS) : List UInt8 := (printLs st).flatMap endB
def printF (st : PS) : List UInt8 × Nat := if mayPr st = false then ([], 2) else if 65536 < (printB st).length then ([], 3) else (printB st, 0)
/-- parts of a line: no blank, no end -/
def partOk (ps : List (List UInt8)) : Prop := ps ≠ [] ∧ ∀ p ∈ ps, (10 : UInt8) ∉ p ∧ (32 : UInt8) ∉ p
theorem wordQ_ok (t : Tx) : partOk (wordQ t) := ⟨by simp [wordQ], fun p hp => by
  simp only [wordQ, List.mem_cons, List.not_mem_nil, or_false] at hp
  rcases hp with rfl | rfl
  · decide
  · exact ink_no (quoL_ink _)⟩
theorem cutQ_ok (k : KV) : partOk (cutQ k) := ⟨by simp [cutQ], fun p hp => by
  simp only [cutQ, List.mem_cons, List.not_mem_nil, or_false] at hp
  rcases hp with rfl | rfl | rfl
  · decide
  · exact ink_no (dec_ink _)
  · exact ink_no (quoL_ink _)⟩
theorem decs_ok (ns : List Int) : ∀ p ∈ ns.map decI, (10 : UInt8) ∉ p ∧ (32 : UInt8) ∉ p := by
  intro p hp
  obtain ⟨z, _, rfl⟩ := List.mem_map.1 hp
  exact ink_no (dec_ink _)
theorem evQ_ok (e : EvP) : partOk (evQ e) := by
  unfold evQ
  split
  · refine ⟨by simp, fun p hp => ?_⟩
    simp only [List.mem_cons, List.not_mem_nil, or_false] at hp
    rcases hp with rfl | rfl | rfl | rfl
    · decide
    · exact ink_no (quoL_ink _)
    · exact ink_no (dec_ink _)
    · exact ink_no (dec_ink _)
  · refine ⟨by simp, fun p hp => ?_⟩
    rcases List.mem_cons.1 hp with rfl | hp
    · decide
    · exact decs_ok _ p hp
theorem lineF_parts (st : PS) (k : List UInt8) (r : List (List UInt8)) (h : partOk (k :: r)) : lineF st (lineB (k :: r)) = partsF st k r := by
  unfold lineF lineB
  rw [splitL_join 32 (k :: r) h.1 (fun p hp => (h.2 p hp).2)]
theorem line_word (st : PS) (t : Tx) : lineF st (lineB (wordQ t)) = some { st with ws := st.ws ++ [t] } := by
  unfold wordQ
  rw [lineF_parts st _ _ (wordQ_ok t)]
  unfold partsF
  rw [if_pos rfl]
  unfold wordF
  simp only [unqO_quo]
theorem line_cut (st : PS) (k : KV) (h : numQ k.1 = true) : lineF st (lineB (cutQ k)) = some { st with ks := st.ks ++ [k] } := by
  have h1 : 0 ≤ k.1 ∧ k.1 ≤ 999999 := of_decide_eq_true h
  unfold cutQ
  rw [lineF_parts st _ _ (cutQ_ok k)]
  unfold partsF
  rw [if_neg (by decide), if_pos rfl]
  unfold cutF decI
  simp only [unqO_quo, numO_dec k.1.toNat (by omega)]
  rw [Int.toNat_of_nonneg h1.1]
theorem nums_ok {ns : List Int} (h : numsQ ns = true) : ∀ z ∈ ns, 0 ≤ z ∧ z ≤ 999999 := fun z hz => of_decide_eq_true (List.all_eq_true.1 h z hz)
theorem line_ev (st : PS) (e : EvP) (h : mayEv e = true) : lineF st (lineB (evQ e)) = some { st with es := st.es ++ [e] } := by
  have hok := evQ_ok e
  unfold mayEv at h
  unfold evQ at hok ⊢
  by_cases hk : e.kd = 1
  · rw [if_pos hk] at h hok ⊢
    simp only [Bool.and_eq_true] at h
    obtain ⟨h0, h1, h2⟩ := h
    have h0 := of_decide_eq_true h0
    rw [lineF_parts st _ _ hok]
    unfold partsF
    rw [if_neg (by decide), if_neg (by decide), if_neg (by decide), if_neg (by decide), if_pos rfl]
    unfold askF numsK
    have h3 : numsO [decI e.k, decI e.n] = some [e.k, e.n] := numsO_dec [e.k, e.n] (by
      intro z hz
      simp only [List.mem_cons, List.not_mem_nil, or_false] at hz
      rcases hz with rfl | rfl
      · exact of_decide_eq_true h1
      · exact of_decide_eq_true h2)
    simp only [unqO_quo, List.length_cons, List.length_nil, if_true, h3]
    congr 2
    congr 1
    cases e
    simp at hk h0
    simp [hk, h0]
  · rw [if_neg hk] at h hok ⊢
    simp only [Bool.and_eq_true] at h
    obtain ⟨h0, h1⟩ := h
    have h0 := of_decide_eq_true h0
    rw [lineF_parts st _ _ hok]
    unfold partsF
    rw [if_neg (by decide), if_neg (by decide), if_neg (by decide), if_pos rfl]
    unfold evF numsK
    rw [if_pos (by simp [nosEv]), numsO_dec (nosEv e) (nums_ok h1)]
    simp only [nosEv, List.getD_cons_zero, List.getD_cons_succ]
    rw [if_neg hk]
    congr 2
    congr 1
    cases e
    simp at h0
    simp [h0]
theorem print_last (st : PS) : (printB st).getLast? = some 10 := by
  have key : ∀ L : List (List (List UInt8)), L ≠ [] → (L.flatMap endB).getLast? = some 10 := by
    intro L
    induction L with
    | nil => intro h; exact absurd rfl h
    | cons ps L ih =>
      intro _
      rw [List.flatMap_cons]
      by_cases hL : L = []
      · subst hL
        simp [endB]
      · have hne : L.flatMap endB ≠ [] := by
          intro e
          have := ih hL
          rw [e] at this; cases this
        rw [last_app hne, ih hL]
  unfold printB
  exact key _ (by unfold printLs; simp)
end Go.Proofs.YtmddnklafplikaaDoor
namespace Go.Proofs.YtmddnklafplikaaDoor
open Go.Shelf Go.RowKit
set_option linter.unusedVariables false
set_option maxRecDepth 20000
def Tryd.lays137_ren : Go.Shelf.Ren := ⟨fun | 137 => 39 | 217 => 59 | 266 => 71 | n => n, fun | 9 => 9 | 5 => 5 | 3 => 3 | n => n, fun | n => n⟩
theorem Tryd.lays137 : Go.Proofs.Lays.n137 Tryd.prog Tryd.lays137_ren := {
  mixed := by kernel_rfl
  f137 := Tryd.func39.trans (congrArg some (by kernel_rfl))
  f217 := Tryd.func59.trans (congrArg some (by kernel_rfl))
  f266 := Tryd.func71.trans (congrArg some (by kernel_rfl))
  t3 := Tryd.underlying3
  a3 := Tryd.isAgg3
  z3 := Tryd.sizeOf3
  v3 := Tryd.zeroValue3
  t5 := Tryd.underlying5
  a5 := Tryd.isAgg5
  z5 := Tryd.sizeOf5
  v5 := Tryd.zeroValue5
  t9 := Tryd.underlying9
  a9 := Tryd.isAgg9
  z9 := Tryd.sizeOf9
  v9 := Tryd.zeroValue9 }
theorem index_hex (n : Nat) (h : n < 256) : Lib.indexByte [48, 49, 50, 51, 52, 53, 54, 55, 56, 57, 97, 98, 99, 100, 101, 102] n.toUInt8 = hexV n := by
  have key : ∀ n : Fin 256, Lib.indexByte [48, 49, 50, 51, 52, 53, 54, 55, 56, 57, 97, 98, 99, 100, 101, 102] n.1.toUInt8 = hexV n.1 := by decide +kernel
  exact key ⟨n, h⟩
theorem ix_any (n : Nat) (v : Int) (w : World) (h : n < 256) (hv : hexV n = v) :
    Calls Tryd.prog 39 #[.string { data := #[48, 49, 50, 51, 52, 53, 54, 55, 56, 57, 97, 98, 99, 100, 101, 102] }, .int .u8 (n : Int)] w fun e w' => e = .returned (.int .i64 v) ∧ w' = w := by
  have h1 := Any.strings_IndexByte Tryd.lays137 { data := #[48, 49, 50, 51, 52, 53, 54, 55, 56, 57, 97, 98, 99, 100, 101, 102] } (n : Int) w
  rw [Int.toNat_natCast, show ({ data := #[48, 49, 50, 51, 52, 53, 54, 55, 56, 57, 97, 98, 99, 100, 101, 102] } : ByteArray).data.toList = [48, 49, 50, 51, 52, 53, 54, 55, 56, 57, 97, 98, 99, 100, 101, 102] from rfl, index_hex n h, hv] at h1
  exact h1
theorem byte_cons {s : ByteArray} {i : Nat} {x : UInt8} (h : s.data.toList[i]? = some x) : ∃ h' : i < s.size, (s[i]'h').toNat = x.toNat := by
  have hlt : i < s.size := by
    have := (List.getElem?_eq_some_iff.1 h).1
    simpa using this
  refine ⟨hlt, ?_⟩
  have h2 := (List.getElem?_eq_some_iff.1 h).2
  rw [Array.getElem_toList] at h2
  have h3 : s[i]'hlt = x := h2
  rw [h3]
theorem or_nib (a d : Nat) (ha : a < 16) (hd : d < 16) : bits BinOp.or IntKind.i64 ((a : Int) * 16) (d : Int) % 256 = (a : Int) * 16 + d := by
  have key : ∀ a d : Fin 16, bits BinOp.or IntKind.i64 ((a.1 : Int) * 16) (d.1 : Int) % 256 = (a.1 : Int) * 16 + d.1 := by decide +kernel
  exact key ⟨a, ha⟩ ⟨d, hd⟩
set_option maxRecDepth 100000 in
theorem escaped_yes (s : ByteArray) (c : UInt8) (R : List UInt8) (w : World) (hs : s.data.toList = hexU (c.toNat / 16) :: hexU (c.toNat % 16) :: R) (hz : s.size ≤ 1048576) :
    Calls Tryd.prog 25 #[.string s] w fun e w' => e = .returned (.tuple #[.int .u8 c.toNat, .bool true]) ∧ w = w' := by
  have hcl := c.toNat_lt
  obtain ⟨l0, b0⟩ := byte_cons (s := s) (i := 0) (x := hexU (c.toNat / 16)) (by rw [hs]; rfl)
  obtain ⟨l1, b1⟩ := byte_cons (s := s) (i := 1) (x := hexU (c.toNat % 16)) (by rw [hs]; rfl)
  have hsz2 : 2 ≤ s.size := l1
  obtain ⟨a, ha⟩ : ∃ a, c.toNat / 16 = a := ⟨_, rfl⟩
  obtain ⟨d, hd⟩ : ∃ d, c.toNat % 16 = d := ⟨_, rfl⟩
  rw [ha] at b0; rw [hd] at b1
  have e1 := hexV_at a (by omega)
  have e2 := hexV_at d (by omega)
  have t1 := (hexU a).toNat_lt
  have t2 := (hexU d).toNat_lt
  obtain ⟨p, hp⟩ : ∃ p, (hexU a).toNat = p := ⟨_, rfl⟩
  obtain ⟨q, hq⟩ : ∃ q, (hexU d).toNat = q := ⟨_, rfl⟩
  rw [hp] at b0 e1 t1; rw [hq] at b1 e2 t2
  have C1 := Lib.hid (fun w => ix_any p (a : Int) w t1 e1)
  have C2 := Lib.hid (fun w => ix_any q (d : Int) w t2 e2)
  obtain ⟨n, hn⟩ : ∃ n, c.toNat = n := ⟨_, rfl⟩
  obtain ⟨z, hz2⟩ : ∃ z, s.size = z := ⟨_, rfl⟩
  rw [hn] at ha hd hcl ⊢
  rw [hz2] at hsz2 hz
  have HZ := Lib.hid hz2
  have d1 : decide ((z : Int) < 2) = false := decide_eq_false (by omega)
  have d2 : decide (z < 2) = false := decide_eq_false (by omega)
  have g1 : (0 : Int) ≤ (a : Int) := by omega
  have g2 : (0 : Int) ≤ (d : Int) := by omega
  have g3 : decide ((a : Int) < 0) = false := decide_eq_false (by omega)
  have g4 : decide ((d : Int) < 0) = false := decide_eq_false (by omega)
  have b3 : bits BinOp.or IntKind.i64 ((a : Int) * 16) (d : Int) % 256 = (n : Int) := by
    rw [or_nib a d (by omega) (by omega)]; omega
  clear hp hq hn e1 e2 hs
  go_enter Tryd.func25, Tryd.ntmps25
  go_wp2_with fail
  refine (C1.out _).mono ?_
  rintro e w' ⟨rfl, rfl⟩
  go_wp2_with fail
  refine (C2.out _).mono ?_
  rintro e w' ⟨rfl, rfl⟩
  go_wp2_with fail
  go_ret2
  exact ⟨by rw [← b3]; rfl, rfl⟩
theorem hexV_bd (n : Nat) : -1 ≤ hexV n ∧ hexV n ≤ 15 := by unfold hexV; split <;> (try split) <;> omega
def EscP (w : World) (e : Ending) (w' : World) : Prop := ∃ (c : UInt8) (ok : Bool), e = .returned (.tuple #[.int .u8 c.toNat, .bool ok]) ∧ w = w'
set_option maxRecDepth 100000 in
theorem escaped_any (s : ByteArray) (w : World) (hz : s.size ≤ 1048576) : Calls Tryd.prog 25 #[.string s] w (EscP w) := by
  by_cases h2 : s.size < 2
  · obtain ⟨z, hz2⟩ : ∃ z, s.size = z := ⟨_, rfl⟩
    rw [hz2] at h2 hz
    have d1 : decide ((z : Int) < 2) = true := decide_eq_true (by omega)
    have d2 : decide (z < 2) = true := decide_eq_true (by omega)
    go_enter Tryd.func25, Tryd.ntmps25
    go_wp2_with fail
    go_ret2
    exact ⟨0, false, rfl, rfl⟩
  · have l0 : 0 < s.size := by omega
    have l1 : 1 < s.size := by omega
    obtain ⟨p, b0⟩ : ∃ p, (s[0]'l0).toNat = p := ⟨_, rfl⟩
    obtain ⟨q, b1⟩ : ∃ p, (s[1]'l1).toNat = p := ⟨_, rfl⟩
    have t1 : p < 256 := by rw [← b0]; exact (s[0]'l0).toNat_lt
    have t2 : q < 256 := by rw [← b1]; exact (s[1]'l1).toNat_lt
    obtain ⟨a, ha⟩ : ∃ a, hexV p = a := ⟨_, rfl⟩
    obtain ⟨d, hd⟩ : ∃ a, hexV q = a := ⟨_, rfl⟩
    have C1 := Lib.hid (fun w => ix_any p a w t1 ha)
    have C2 := Lib.hid (fun w => ix_any q d w t2 hd)
    have hab := hexV_bd p; rw [ha] at hab
    have hdb := hexV_bd q; rw [hd] at hdb
    obtain ⟨z, hz2⟩ : ∃ z, s.size = z := ⟨_, rfl⟩
    rw [hz2] at h2 hz
    have HZ := Lib.hid hz2
    have d1 : decide ((z : Int) < 2) = false := decide_eq_false (by omega)
    have d2 : decide (z < 2) = false := decide_eq_false (by omega)
    clear ha hd h2
    by_cases ga : a < 0
    · have g3 : decide (a < 0) = true := decide_eq_true ga
      clear ga
      go_enter Tryd.func25, Tryd.ntmps25
      go_wp2_with fail
      refine (C1.out _).mono ?_
      rintro e w' ⟨rfl, rfl⟩
      go_wp2_with fail
      refine (C2.out _).mono ?_
      rintro e w' ⟨rfl, rfl⟩
      go_wp2_with fail
      go_ret2
      exact ⟨0, false, rfl, rfl⟩
    · have g3 : decide (a < 0) = false := decide_eq_false ga
      by_cases gd : d < 0
      · have g4 : decide (d < 0) = true := decide_eq_true gd
        clear ga gd
        go_enter Tryd.func25, Tryd.ntmps25
        go_wp2_with fail
        refine (C1.out _).mono ?_
        rintro e w' ⟨rfl, rfl⟩
        go_wp2_with fail
        refine (C2.out _).mono ?_
        rintro e w' ⟨rfl, rfl⟩
        go_wp2_with fail
        go_ret2
        exact ⟨0, false, rfl, rfl⟩
      · have g4 : decide (d < 0) = false := decide_eq_false gd
        obtain ⟨a, rfl⟩ : ∃ k : Nat, a = (k : Int) := ⟨a.toNat, by omega⟩
        obtain ⟨d, rfl⟩ : ∃ k : Nat, d = (k : Int) := ⟨d.toNat, by omega⟩
        have g1 : (0 : Int) ≤ (a : Int) := by omega
        have g2 : (0 : Int) ≤ (d : Int) := by omega
        obtain ⟨c, hc⟩ : ∃ c : UInt8, c.toNat = a * 16 + d := ⟨UInt8.ofNat (a * 16 + d), by rw [UInt8.toNat_ofNat']; omega⟩
        have b3 : bits BinOp.or IntKind.i64 ((a : Int) * 16) (d : Int) % 256 = (c.toNat : Int) := by
          rw [or_nib a d (by omega) (by omega), hc]; omega
        clear hc ga gd
        go_enter Tryd.func25, Tryd.ntmps25
        go_wp2_with fail
        refine (C1.out _).mono ?_
        rintro e w' ⟨rfl, rfl⟩
        go_wp2_with fail
        refine (C2.out _).mono ?_
        rintro e w' ⟨rfl, rfl⟩
        go_wp2_with fail
        go_ret2
        exact ⟨c, true, by rw [← b3]; rfl, rfl⟩
end Go.Proofs.YtmddnklafplikaaDoor
namespace Go.Proofs.YtmddnklafplikaaDoor
open Go.RowKit
set_option linter.unusedVariables false
set_option maxRecDepth 20000
theorem quoS_size (t : ByteArray) : (quoS t).size = (quoB t.data.toList).length + 2 := by
  have h : (quoS t).size = (quoS t).data.toList.length := by simp
  rw [h, quoS_data]; simp [quoL]
theorem quoS_body (t : ByteArray) : ((quoS t).extract 1 ((quoS t).size - 1)).data.toList = quoB t.data.toList := by
  rw [quoS_size, Lib.extract_data, quoS_data]
  simp [quoL]
set_option maxRecDepth 100000 in
set_option maxHeartbeats 3200000 in
theorem unquote_yes (t : ByteArray) (w : World) (ht : t.size ≤ 300000) :
    Calls Tryd.prog 10 #[.string (quoS t)] w fun e w' => e = .returned (.tuple #[.string t, .bool true]) ∧ Below w.heap.size w w' := by
  have CQ := Lib.hid (fun w => quote_any t w (by omega))
  have hq3 := quoB_len t.data.toList
  have hlt : t.data.toList.length = t.size := by simp
  obtain ⟨m, hm⟩ : ∃ m, (quoB t.data.toList).length = m := ⟨_, rfl⟩
  obtain ⟨s, hs⟩ : ∃ s, quoS t = s := ⟨_, rfl⟩
  have hb0 := quoS_body t
  have hz0 := quoS_size t
  have hx0 : (quoS t).data.toList[0]? = some 34 := by rw [quoS_data]; rfl
  obtain ⟨y, hy⟩ : ∃ y, m + 1 = y := ⟨_, rfl⟩
  have hx1 : (quoS t).data.toList[y]? = some 34 := by rw [quoS_data, ← hy, ← hm]; simp [quoL]
  rw [hs] at CQ hb0 hz0 hx0 hx1 ⊢
  rw [hm] at hz0 hq3
  obtain ⟨z, hz⟩ : ∃ z, s.size = z := ⟨_, rfl⟩
  obtain ⟨l0, b0⟩ := byte_cons hx0
  obtain ⟨l1, b1⟩ := byte_cons hx1
  rw [hz] at hb0 hz0
  have b0 : (s[0]'l0).toNat = 34 := b0
  have b1 : (s[y]'l1).toNat = 34 := b1
  obtain ⟨b, hb⟩ : ∃ b, s.extract 1 y = b := ⟨_, rfl⟩
  rw [show z - 1 = y from by omega, hb] at hb0
  have HT := Lib.hid (show (⟨t.data.toList.toArray⟩ : ByteArray) = t from rfl)
  obtain ⟨l, hl⟩ : ∃ l, t.data.toList = l := ⟨_, rfl⟩
  rw [hl] at hb0 HT hm hq3 hlt
  have hbs : b.size = m := by
    have h : b.size = b.data.toList.length := by simp
    rw [h, hb0, hm]
  have d1 : decide ((z : Int) < 2) = false := decide_eq_false (by omega)
  have d2 : decide (z < 2) = false := decide_eq_false (by omega)
  have j1 : IntKind.i64.wrap ((z : Int) - 1) = (y : Int) := by rw [IntWalk.i64_in _ (by omega)]; omega
  have j2 : (1 : Int) ≤ (y : Int) := by omega
  have j3 : (y : Int) ≤ (z : Int) := by omega
  have j4 : (y : Int) < (z : Int) := by omega
  have HB0 := Lib.hid hb0
  have HM := Lib.hid hm
  have HLT := Lib.hid (show l.length = t.size ∧ t.size ≤ 300000 ∧ m ≤ 900000 from ⟨hlt, ht, by omega⟩)
  clear hs hl hm ht hb0 hx0 hx1 hlt hq3 hz0 hy
  go_enter Tryd.func10, Tryd.ntmps10
  go_upto_region 6 with fail
  have B1 := Lib.hid (below_one w (.cells #[.pointer none, .slice none 0 0] 54))
  have X1 := Lib.hid (Lib.IsBuilderF.of (Lib.fresh_isBuilder 54 5 w))
  have hsz1 : (w.alloc (.cells #[.pointer none, .slice none 0 0] 54)).heap.size = w.heap.size + 1 := by simp
  have K2 := Lib.hid (heap_alloc_new (w.alloc (.cells #[.pointer none, .slice none 0 0] 54)) (.stringIter b 0))
  rw [hsz1] at K2
  clear hsz1
  have X2 := Lib.hid (X1.out.alloc (.stringIter b 0))
  have B2 := Lib.hid (B1.out.trans ((Below.refl _ _).alloc (by have := B1.out.size; omega) (.stringIter b 0)))
  clear X1 B1
  have D0 := Lib.hid (show (quoB l).drop 0 = [] ++ quoB (l.drop 0) from by simp)
  go_wp2_with fail
  go_loopw [6] (fun sk wr => ∃ (pos j : Nat) (pre : List UInt8), pos ≤ m ∧ sk = .int .i64 pre.length ∧ Hid (j ≤ l.length) ∧ Hid ((quoB l).drop pos = pre ++ quoB (l.drop j)) ∧ Hid (∀ x ∈ pre, inkP x) ∧ Hid (Lib.IsBuilderF 54 5 w.heap.size w.heap.size (Lib.byteCells (l.take j)) wr) ∧ Hid (wr.heap[w.heap.size + 1]? = some (.stringIter b pos)) ∧ Hid (Below w.heap.size w wr)) (fun _ wr => m - wr.iterPos (w.heap.size + 1))
  case atStart => exact ⟨0, 0, [], by omega, rfl, Lib.hid (by omega), D0, Lib.hid (by simp), X2, K2, B2⟩
  case round =>
    clear X2 K2 B2 D0
    obtain ⟨pos, j, pre, hpos, rfl, hj, hD, hP, hX, hK, hB⟩ := hrel
    by_cases hlt : pos < m
    · have hlb : pos < b.size := by omega
      obtain ⟨q, hq⟩ : ∃ q, pos + 1 = q := ⟨_, rfl⟩
      have HPQ := Lib.hid (show pos < q ∧ q ≤ m from by omega)
      have hD1 : (quoB l).drop q = (pre ++ quoB (l.drop j)).tail := by rw [← hD.out, ← hq, List.tail_drop]
      have hd0 : ∀ x t, pre ++ quoB (l.drop j) = x :: t → b.data.toList[pos]? = some x := fun x t h => by
        rw [HB0.out]
        have h2 : ((quoB l).drop pos)[0]? = some x := by rw [hD.out, h]; rfl
        rw [List.getElem?_drop] at h2
        simpa using h2
      have XN := Lib.hid (hX.out.iterAt hK.out q)
      have KN := Lib.hid (Lib.iterAt_heap wr _ b pos q hK.out)
      have BN := Lib.hid (Lib.below_iterAt hB.out (k := w.heap.size + 1) (by omega) b q)
      cases pre with
      | cons x pre =>
        obtain ⟨_, hby⟩ := byte_cons (hd0 x _ rfl)
        have hik := hP.out x (by simp)
        have hnx := fun ty => Lib.run_next_ascii_at (P := Tryd.prog) wr _ b pos ty hK.out hlb (by rw [hby]; have := hik.2; omega)
        rw [hby, hq] at hnx
        obtain ⟨r, hr⟩ : ∃ r, x.toNat = r := ⟨_, rfl⟩
        rw [hr] at hnx
        obtain ⟨k, hk⟩ : ∃ k, pre.length = k := ⟨_, rfl⟩
        have hk1 : (x :: pre).length = k + 1 := by simp [hk]
        rw [hk1]
        have D2 := Lib.hid (show (quoB l).drop q = pre ++ quoB (l.drop j) from hD1)
        have P2 := Lib.hid (show ∀ x ∈ pre, inkP x from fun y hy => hP.out y (by simp [hy]))
        have g1 : decide (((k : Int) + 1) > 0) = true := decide_eq_true (by omega)
        have g2 : decide ((0 : Int) < (k : Int) + 1) = true := decide_eq_true (by omega)
        have hkm : k + 1 ≤ m := by
          have h := congrArg List.length hD.out
          rw [List.length_drop, HM.out, List.length_append, hk1] at h
          omega
        have hm9 := HLT.out.2.2
        have g3 : IntKind.i64.wrap (k : Int) = (k : Int) := by rw [IntWalk.i64_in _ (by omega)]
        have HK0 := Lib.hid hk
        clear hk1 hk hr hby hik hd0 hD1 hD hP hX hB
        go_wp2_with fail
        go_roundw
        case rel => exact ⟨q, j, pre, HPQ.out.2, by rw [HK0.out], hj, D2, P2, XN, KN, BN⟩
        case measure => rw [iterPos_of KN.out, iterPos_of hK.out]; have := HPQ.out; omega
      | nil =>
        obtain ⟨c, R, hcR⟩ : ∃ c R, l.drop j = c :: R := by
          cases h : l.drop j with
          | nil =>
            have h2 := congrArg List.length hD.out
            rw [h, List.length_drop, HM.out] at h2
            simp [quoB] at h2
            omega
          | cons c R => exact ⟨c, R, rfl⟩
        have hjl : j < l.length := by
          rcases Nat.lt_or_ge j l.length with h | h
          · exact h
          · rw [List.drop_eq_nil_of_le h] at hcR; cases hcR
        have hR : l.drop (j + 1) = R := by rw [← List.tail_drop, hcR]; rfl
        have htk : l.take (j + 1) = l.take j ++ [c] := by
          rw [List.take_add_one]
          have h : l[j]? = some c := by
            have h2 : (l.drop j)[0]? = some c := by rw [hcR]; rfl
            rw [List.getElem?_drop] at h2
            simpa using h2
          rw [h]; rfl
        have hjm : (l.take j).length ≤ 300000 := by have := HLT.out; rw [List.length_take]; omega
        rw [hcR, quoB_cons] at hD1 hd0
        obtain ⟨p, hp⟩ : ∃ p, decide (plainP c) = p := ⟨_, rfl⟩
        have hcl := c.toNat_lt
        have CB := Lib.hid (fun w' h => bbyte_any w.heap.size w.heap.size (l.take j) c w' h (by omega))
        rw [← htk] at CB
        cases p with
        | true =>
          have hpl := of_decide_eq_true hp
          have hqu : quoU c = [c] := by unfold quoU; rw [if_pos hpl]
          rw [hqu] at hD1 hd0
          have D2 := Lib.hid (show (quoB l).drop q = [] ++ quoB (l.drop (j + 1)) from by rw [hR]; exact hD1)
          obtain ⟨_, hby⟩ := byte_cons (hd0 c _ rfl)
          have hnx := fun ty => Lib.run_next_ascii_at (P := Tryd.prog) wr _ b pos ty hK.out hlb (by rw [hby]; have := hpl.2.1; omega)
          rw [hby, hq] at hnx
          obtain ⟨r, hr⟩ : ∃ r, c.toNat = r := ⟨_, rfl⟩
          rw [hr] at hnx CB hcl
          have g1 : ((r : Int) != 92) = true := by have := hpl.2.2.2; simp; omega
          have g2 : (r : Int) % 256 = (r : Int) := by omega
          clear hr hby hd0 hD1 hD hP hX hB hpl hqu hp hcR hR htk hq
          go_wp2_with fail
          refine (CB.out _ XN.out BN.out.size).mono ?_
          rintro e w5 ⟨rfl, hb5, hB5, -, hk5⟩
          have X5 := Lib.hid hb5
          have K5 := Lib.hid (hk5 _ _ _ KN.out)
          have B5 := Lib.hid (BN.out.trans hB5)
          clear hb5 hB5 hk5
          go_wp2_with fail
          go_roundw
          case rel => exact ⟨q, j + 1, [], HPQ.out.2, rfl, Lib.hid hjl, D2, Lib.hid (by simp), X5, K5, B5⟩
          case measure => rw [iterPos_of K5.out, iterPos_of hK.out]; have := HPQ.out; omega
        | false =>
          have hpl := of_decide_eq_false hp
          have hqu : quoU c = [92, hexU (c.toNat / 16), hexU (c.toNat % 16)] := by unfold quoU; rw [if_neg hpl]
          rw [hqu] at hD1 hd0
          have D2 := Lib.hid (show (quoB l).drop q = [hexU (c.toNat / 16), hexU (c.toNat % 16)] ++ quoB (l.drop (j + 1)) from by rw [hR]; exact hD1)
          have P2 := Lib.hid (show ∀ x ∈ [hexU (c.toNat / 16), hexU (c.toNat % 16)], inkP x from fun x hx => by
            simp only [List.mem_cons, List.not_mem_nil, or_false] at hx
            rcases hx with rfl | rfl
            · exact hexU_ink _ (by omega)
            · exact hexU_ink _ (by omega))
          obtain ⟨_, hby⟩ := byte_cons (hd0 92 _ rfl)
          have hby : (b[pos]'hlb).toNat = 92 := hby
          have hnx := fun ty => Lib.run_next_ascii_at (P := Tryd.prog) wr _ b pos ty hK.out hlb (by omega)
          rw [hby, hq] at hnx
          obtain ⟨b2, hb2⟩ : ∃ b2, b.extract q m = b2 := ⟨_, rfl⟩
          have hb2d : b2.data.toList = hexU (c.toNat / 16) :: hexU (c.toNat % 16) :: quoB R := by
            rw [← hb2, Lib.extract_data, HB0.out]
            rw [show (quoB l).drop q = _ from hD1]
            rw [List.take_of_length_le]
            · rfl
            · have h := congrArg List.length hD1
              rw [List.length_drop, HM.out] at h
              rw [← h]; omega
          have CE := Lib.hid (fun w => escaped_yes b2 c _ w hb2d (by rw [← hb2]; have := HLT.out; simp [ByteArray.size_extract]; omega))
          have g1 : IntKind.i64.wrap ((pos : Int) + 1) = (q : Int) := by have := HLT.out; rw [IntWalk.i64_in _ (by omega)]; omega
          have g2 : (q : Int) ≤ (m : Int) := by omega
          have g3 : (0 : Int) ≤ (q : Int) := by omega
          clear hby hd0 hD1 hD hP hX hB hpl hqu hp hcR hR htk hb2d hq
          have P3 := Lib.hid (show ((2 : Nat) : Int) = (([hexU (c.toNat / 16), hexU (c.toNat % 16)] : List UInt8).length : Int) from rfl)
          obtain ⟨pr, hpr⟩ : ∃ pr, [hexU (c.toNat / 16), hexU (c.toNat % 16)] = pr := ⟨_, rfl⟩
          rw [hpr] at D2 P2 P3
          obtain ⟨n, hn⟩ : ∃ n, c.toNat = n := ⟨_, rfl⟩
          rw [hn] at CE CB
          clear hpr hn
          go_wp2_with fail
          refine (CE.out _).mono ?_
          rintro e w5 ⟨rfl, rfl⟩
          go_wp2_with fail
          refine (CB.out _ XN.out BN.out.size).mono ?_
          rintro e w5 ⟨rfl, hb5, hB5, -, hk5⟩
          have X5 := Lib.hid hb5
          have K5 := Lib.hid (hk5 _ _ _ KN.out)
          have B5 := Lib.hid (BN.out.trans hB5)
          clear hb5 hB5 hk5
          go_wp2_with fail
          go_roundw
          case rel => exact ⟨q, j + 1, pr, HPQ.out.2, by rw [← P3.out]; rfl, Lib.hid hjl, D2, P2, X5, K5, B5⟩
          case measure => rw [iterPos_of K5.out, iterPos_of hK.out]; have := HPQ.out; omega
    · have hlb : ¬ pos < b.size := by omega
      have hnx := fun ty => Lib.run_next_end_at (P := Tryd.prog) wr _ b pos ty hK.out hlb
      have hjl : l.take j = l := by
        have h2 := congrArg List.length hD.out
        rw [List.length_drop, HM.out, List.length_append] at h2
        cases h : l.drop j with
        | nil => exact List.take_of_length_le (by have := congrArg List.length h; simp at this; omega)
        | cons c R =>
          rw [h, quoB_cons, List.length_append] at h2
          have := quoU_ne c
          cases hu : quoU c with
          | nil => exact absurd hu this
          | cons x X => rw [hu] at h2; simp at h2; omega
      have X3 := Lib.hid (show Lib.IsBuilderF 54 5 w.heap.size w.heap.size (Lib.byteCells l) wr from by have := hX.out; rwa [hjl] at this)
      have se : (s.toList == s.toList) = true := by simp
      clear hjl hX hD
      go_wp2_with fail
      refine (bstring_any _ _ _ _ X3.out hB.out.size).mono ?_
      rw [HT.out]
      rintro e w6 ⟨rfl, -, hB6⟩
      have B6 := Lib.hid (hB.out.trans hB6)
      clear hB6
      go_wp2_with fail
      refine (CQ.out _).mono ?_
      rintro e w7 ⟨rfl, hB7⟩
      have B7 := Lib.hid (B6.out.trans (hB7.mono B6.out.size))
      clear hB7
      go_wp2_with fail
      go_ret2
      exact ⟨rfl, B7.out⟩
end Go.Proofs.YtmddnklafplikaaDoor
namespace Go.Proofs.YtmddnklafplikaaDoor
open Go.RowKit
set_option linter.unusedVariables false
set_option maxRecDepth 20000
theorem byte_of (r : Nat) : ∃ c : UInt8, (r : Int) % 256 = (c.toNat : Int) := ⟨UInt8.ofNat r, by rw [UInt8.toNat_ofNat']; omega⟩
def NoP (w : World) (e : Ending) (w' : World) : Prop := e = .returned (.tuple #[.string { data := #[] }, .bool false]) ∧ Below w.heap.size w w'
set_option maxRecDepth 100000 in
set_option maxHeartbeats 3200000 in
theorem unquote_no (s : ByteArray) (w : World) (hs : s.size ≤ 300000) (hno : ∀ t, quoS t ≠ s) : Calls Tryd.prog 10 #[.string s] w (NoP w) := by
  obtain ⟨z, hz⟩ : ∃ z, s.size = z := ⟨_, rfl⟩
  have HNO := Lib.hid hno
  rw [hz] at hs
  clear hno
  by_cases h2 : z < 2
  · have d1 : decide ((z : Int) < 2) = true := decide_eq_true (by omega)
    have d2 : decide (z < 2) = true := decide_eq_true (by omega)
    go_enter Tryd.func10, Tryd.ntmps10
    go_wp2_with fail
    go_ret2
    exact ⟨rfl, Below.refl _ _⟩
  have d1 : decide ((z : Int) < 2) = false := decide_eq_false (by omega)
  have d2 : decide (z < 2) = false := decide_eq_false (by omega)
  obtain ⟨y, hy⟩ : ∃ y, z - 1 = y := ⟨_, rfl⟩
  have l0 : 0 < s.size := by omega
  have l1 : y < s.size := by omega
  have j1 : IntKind.i64.wrap ((z : Int) - 1) = (y : Int) := by rw [IntWalk.i64_in _ (by omega)]; omega
  have j2 : (1 : Int) ≤ (y : Int) := by omega
  have j3 : (y : Int) ≤ (z : Int) := by omega
  have j4 : (y : Int) < (z : Int) := by omega
  obtain ⟨p, b0⟩ : ∃ p, (s[0]'l0).toNat = p := ⟨_, rfl⟩
  obtain ⟨r, b1⟩ : ∃ p, (s[y]'l1).toNat = p := ⟨_, rfl⟩
  obtain ⟨m, hm⟩ : ∃ m, y - 1 = m := ⟨_, rfl⟩
  have HMZ := Lib.hid (show m + 2 = z from by omega)
  by_cases hp : p = 34
  case neg =>
    have g1 : ((p : Int) != 34) = true := by simp; omega
    clear hp h2 hy hm
    go_enter Tryd.func10, Tryd.ntmps10
    go_wp2_with fail
    go_ret2
    exact ⟨rfl, Below.refl _ _⟩
  subst hp
  by_cases hr : r = 34
  case neg =>
    have g1 : ((r : Int) != 34) = true := by simp; omega
    clear hr h2 hy hm
    go_enter Tryd.func10, Tryd.ntmps10
    go_wp2_with fail
    go_ret2
    exact ⟨rfl, Below.refl _ _⟩
  subst hr
  obtain ⟨b, hb⟩ : ∃ b, s.extract 1 y = b := ⟨_, rfl⟩
  have hbs : b.size = m := by rw [← hb]; simp [ByteArray.size_extract]; omega
  have hm9 : m ≤ 300000 := by omega
  clear h2 hy hm
  go_enter Tryd.func10, Tryd.ntmps10
  go_upto_region 6 with fail
  have B1 := Lib.hid (below_one w (.cells #[.pointer none, .slice none 0 0] 54))
  have X1 := Lib.hid (Lib.IsBuilderF.of (Lib.fresh_isBuilder 54 5 w))
  have hsz1 : (w.alloc (.cells #[.pointer none, .slice none 0 0] 54)).heap.size = w.heap.size + 1 := by simp
  have K2 := Lib.hid (heap_alloc_new (w.alloc (.cells #[.pointer none, .slice none 0 0] 54)) (.stringIter b 0))
  rw [hsz1] at K2
  clear hsz1
  have X2 := Lib.hid (X1.out.alloc (.stringIter b 0))
  have B2 := Lib.hid (B1.out.trans ((Below.refl _ _).alloc (by have := B1.out.size; omega) (.stringIter b 0)))
  clear X1 B1
  go_wp2_with fail
  go_loopw [6] (fun sk wr => ∃ (pos k : Nat) (l : List UInt8), sk = .int .i64 k ∧ Hid (k ≤ 2 ∧ l.length ≤ pos ∧ l.length ≤ m) ∧ Hid (Lib.IsBuilderF 54 5 w.heap.size w.heap.size (Lib.byteCells l) wr) ∧ Hid (wr.heap[w.heap.size + 1]? = some (.stringIter b pos)) ∧ Hid (Below w.heap.size w wr)) (fun _ wr => m - wr.iterPos (w.heap.size + 1))
  case atStart => exact ⟨0, 0, [], rfl, Lib.hid ⟨by omega, by simp, by simp⟩, X2, K2, B2⟩
  case round =>
    clear X2 K2 B2
    obtain ⟨pos, k, l, rfl, hL, hX, hK, hB⟩ := hrel
    by_cases hlt : pos < m
    · have hlb : pos < b.size := by omega
      have hwd := decode_width b pos hlb
      have hnx := fun ty => Lib.run_next_any_at (P := Tryd.prog) wr _ b pos ty hK.out hlb
      obtain ⟨r, hr⟩ : ∃ r, (Utf8.decode b pos).1 = r := ⟨_, rfl⟩
      obtain ⟨q, hq⟩ : ∃ q, pos + (Utf8.decode b pos).2 = q := ⟨_, rfl⟩
      rw [hr, hq] at hnx
      have HPQ := Lib.hid (show pos < q from by omega)
      have XN := Lib.hid (hX.out.iterAt hK.out q)
      have KN := Lib.hid (Lib.iterAt_heap wr _ b pos q hK.out)
      have BN := Lib.hid (Lib.below_iterAt hB.out (k := w.heap.size + 1) (by omega) b q)
      clear hr hq hwd hX hB
      by_cases hk : 0 < k
      · obtain ⟨j, rfl⟩ : ∃ j, k = j + 1 := ⟨k - 1, by omega⟩
        have hj2 : j ≤ 1 := by have := hL.out.1; omega
        have g1 : decide (((j : Int) + 1) > 0) = true := decide_eq_true (by omega)
        have g2 : decide ((0 : Int) < (j : Int) + 1) = true := decide_eq_true (by omega)
        have g3 : IntKind.i64.wrap (j : Int) = (j : Int) := by rw [IntWalk.i64_in _ (by omega)]
        clear hk
        go_wp2_with fail
        go_roundw
        case rel => exact ⟨q, j, l, rfl, Lib.hid ⟨by omega, by have := HPQ.out; have := hL.out; omega, hL.out.2.2⟩, XN, KN, BN⟩
        case measure => rw [iterPos_of KN.out, iterPos_of hK.out]; have := HPQ.out; omega
      obtain rfl : k = 0 := by omega
      by_cases h92 : r = 92
      · subst h92
        obtain ⟨p1, hp1⟩ : ∃ p1, pos + 1 = p1 := ⟨_, rfl⟩
        obtain ⟨b2, hb2⟩ : ∃ b2, b.extract p1 m = b2 := ⟨_, rfl⟩
        have CE := Lib.hid (fun w => escaped_any b2 w (by rw [← hb2]; simp [ByteArray.size_extract]; omega))
        have g1 : IntKind.i64.wrap ((pos : Int) + 1) = (p1 : Int) := by rw [IntWalk.i64_in _ (by omega)]; omega
        have g2 : (p1 : Int) ≤ (m : Int) := by omega
        have g3 : (0 : Int) ≤ (p1 : Int) := by omega
        have g4 : ((92 : Nat) : Int) = 92 := rfl
        clear hp1 hk
        go_wp2_with fail
        refine (CE.out _).mono ?_
        rintro e w5 ⟨c, ok, rfl, rfl⟩
        have CB := Lib.hid (fun w' h => bbyte_any w.heap.size w.heap.size l c w' h (by have := hL.out; omega))
        obtain ⟨n, hn⟩ : ∃ n, c.toNat = n := ⟨_, rfl⟩
        rw [hn] at CB
        rw [hn]
        cases ok with
        | false =>
          clear hn
          go_wp2_with fail
          go_ret2
          exact ⟨rfl, BN.out⟩
        | true =>
          clear hn
          go_wp2_with fail
          refine (CB.out _ XN.out BN.out.size).mono ?_
          rintro e w5 ⟨rfl, hb5, hB5, -, hk5⟩
          have X5 := Lib.hid hb5
          have K5 := Lib.hid (hk5 _ _ _ KN.out)
          have B5 := Lib.hid (BN.out.trans hB5)
          clear hb5 hB5 hk5
          go_wp2_with fail
          go_roundw
          case rel => exact ⟨q, 2, _, rfl, Lib.hid ⟨by omega, by have := HPQ.out; have := hL.out; simp; omega, by have := hL.out; simp; omega⟩, X5, K5, B5⟩
          case measure => rw [iterPos_of K5.out, iterPos_of hK.out]; have := HPQ.out; omega
      · obtain ⟨c, hc⟩ := byte_of r
        have CB := Lib.hid (fun w' h => bbyte_any w.heap.size w.heap.size l c w' h (by have := hL.out; omega))
        have g1 : ((r : Int) != 92) = true := by simp; omega
        obtain ⟨n, hn⟩ : ∃ n, c.toNat = n := ⟨_, rfl⟩
        rw [hn] at CB hc
        clear h92 hk hn
        go_wp2_with fail
        refine (CB.out _ XN.out BN.out.size).mono ?_
        rintro e w5 ⟨rfl, hb5, hB5, -, hk5⟩
        have X5 := Lib.hid hb5
        have K5 := Lib.hid (hk5 _ _ _ KN.out)
        have B5 := Lib.hid (BN.out.trans hB5)
        clear hb5 hB5 hk5
        go_wp2_with fail
        go_roundw
        case rel => exact ⟨q, 0, _, rfl, Lib.hid ⟨by omega, by have := HPQ.out; have := hL.out; simp; omega, by have := hL.out; simp; omega⟩, X5, K5, B5⟩
        case measure => rw [iterPos_of K5.out, iterPos_of hK.out]; have := HPQ.out; omega
    · have hlb : ¬ pos < b.size := by omega
      have hnx := fun ty => Lib.run_next_end_at (P := Tryd.prog) wr _ b pos ty hK.out hlb
      obtain ⟨o, ho⟩ : ∃ o : ByteArray, (⟨l.toArray⟩ : ByteArray) = o := ⟨_, rfl⟩
      have hos : o.size ≤ 300000 := by
        have h : o.size = l.length := by rw [← ho]; rfl
        have := hL.out; omega
      have CQ := Lib.hid (fun w => quote_any o w (by omega))
      have hne := HNO.out o
      obtain ⟨qo, hqo⟩ : ∃ qo, quoS o = qo := ⟨_, rfl⟩
      rw [hqo] at CQ hne
      have se := str_other hne
      have HO := Lib.hid ho
      clear hne hqo ho hos
      go_wp2_with fail
      refine (bstring_any _ _ _ _ hX.out hB.out.size).mono ?_
      rw [HO.out]
      rintro e w6 ⟨rfl, -, hB6⟩
      have B6 := Lib.hid (hB.out.trans hB6)
      clear hB6
      go_wp2_with fail
      refine (CQ.out _).mono ?_
      rintro e w7 ⟨rfl, hB7⟩
      have B7 := Lib.hid (B6.out.trans (hB7.mono B6.out.size))
      clear hB7
      go_wp2_with fail
      go_ret2
      exact ⟨rfl, B7.out⟩
def UnqP (w : World) (o : Option ByteArray) (e : Ending) (w' : World) : Prop := e = .returned (.tuple #[.string (o.getD { data := #[] }), .bool o.isSome]) ∧ Below w.heap.size w w'
theorem unquote_any (s : ByteArray) (w : World) (hs : s.size ≤ 300000) : Calls Tryd.prog 10 #[.string s] w (UnqP w (unqO s.data.toList)) := by
  by_cases h : ∃ t, quoS t = s
  · obtain ⟨t, rfl⟩ := h
    rw [quoS_data, unqO_quo]
    refine unquote_yes t w ?_
    have h1 := quoS_size t
    have h2 : t.size ≤ (quoB t.data.toList).length := by
      have : ∀ l : List UInt8, l.length ≤ (quoB l).length := by
        intro l
        induction l with
        | nil => simp
        | cons c l ih =>
          rw [quoB_cons, List.length_append, List.length_cons]
          have := quoU_ne c
          cases hu : quoU c with
          | nil => exact absurd hu this
          | cons x X => simp; omega
      have h3 := this t.data.toList
      have h4 : t.data.toList.length = t.size := by simp
      omega
    omega
  · rw [unqO_no (fun t ht => h ⟨⟨t.toArray⟩, by
      have h1 : (quoS ⟨t.toArray⟩).data.toList = s.data.toList := by rw [quoS_data]; simpa using ht
      exact ByteArray.ext (Array.toList_inj.1 h1)⟩)]
    exact unquote_no s w hs (fun t ht => h ⟨t, ht⟩)
end Go.Proofs.YtmddnklafplikaaDoor
namespace Go.Proofs.YtmddnklafplikaaDoor
open Go.RowKit
set_option linter.unusedVariables false
set_option maxRecDepth 20000
theorem no_digit (s : ByteArray) (pos : Nat) (h : pos < s.size) (hn : ¬ (48 ≤ (s[pos]'h).toNat ∧ (s[pos]'h).toNat ≤ 57)) : (Utf8.decode s pos).1 < 48 ∨ 57 < (Utf8.decode s pos).1 := by
  by_cases ha : (s[pos]'h).toNat < 128
  · rw [decode_ascii s pos h ha]; simp only; omega
  · have := (decode_high s pos h (by omega)).1; omega
def NumP (w : World) (o : Option Nat) (e : Ending) (w' : World) : Prop := e = .returned (.tuple #[.int .i64 ((o.getD 0 : Nat) : Int), .bool o.isSome]) ∧ Below w.heap.size w w'
set_option maxRecDepth 100000 in
set_option maxHeartbeats 3200000 in
theorem number_any (s : ByteArray) (w : World) (hs : s.size ≤ 1048576) : Calls Tryd.prog 69 #[.string s] w (NumP w (numO s.data.toList)) := by
  obtain ⟨l, hl⟩ : ∃ l, s.data.toList = l := ⟨_, rfl⟩
  obtain ⟨m, hm⟩ : ∃ m, s.size = m := ⟨_, rfl⟩
  have hlm : l.length = m := by rw [← hl, ← hm]; exact Array.length_toList
  have hat : ∀ i c, l[i]? = some c → ∃ h' : i < s.size, (s[i]'h').toNat = c.toNat := fun i c h => byte_cons (by rw [hl]; exact h)
  rw [hm] at hs
  rw [hl]
  by_cases h0 : m = 0
  · have hnil : l = [] := List.eq_nil_of_length_eq_zero (by omega)
    have hse : s = ByteArray.empty := by
      apply ByteArray.ext; apply Array.toList_inj.1; rw [hl, hnil]; rfl
    subst hse
    subst hnil
    clear hat hl hlm hm h0
    go_enter Tryd.func69, Tryd.ntmps69
    go_wp2_with fail
    go_ret2
    exact ⟨rfl, Below.refl _ _⟩
  have hsl : s.toList ≠ [] := by
    intro e
    have e2 : s = ByteArray.empty := toList_inj (by rw [e]; simp)
    rw [e2] at hm; exact h0 hm.symm
  have n1 : (s.toList == []) = false := by simpa using hsl
  clear hsl
  by_cases h6 : 6 < m
  · have hno : numO l = none := by unfold numO; rw [if_pos (Or.inr (Or.inl (by omega)))]
    rw [hno]
    have d1 : decide ((m : Int) > 6) = true := decide_eq_true (by omega)
    have d2 : decide (6 < m) = true := decide_eq_true h6
    clear hat hl hlm h0 hno
    go_enter Tryd.func69, Tryd.ntmps69
    go_wp2_with fail
    go_ret2
    exact ⟨rfl, Below.refl _ _⟩
  have d1 : decide ((m : Int) > 6) = false := decide_eq_false (by omega)
  have d2 : decide (6 < m) = false := decide_eq_false h6
  obtain ⟨c0, hc0⟩ : ∃ c0, l[0]? = some c0 := ⟨l[0]'(by omega), List.getElem?_eq_getElem _⟩
  obtain ⟨l0, b0⟩ := hat 0 c0 hc0
  have hhd : l.head? = some c0 := by rw [List.head?_eq_getElem?]; exact hc0
  by_cases hz : 1 < m ∧ c0 = 48
  · obtain ⟨hz1, rfl⟩ := hz
    have hno : numO l = none := by unfold numO; rw [if_pos (Or.inr (Or.inr ⟨by omega, hhd⟩))]
    rw [hno]
    have b0 : (s[0]'l0).toNat = 48 := b0
    have d3 : decide ((m : Int) > 1) = true := decide_eq_true (by omega)
    have d4 : decide (1 < m) = true := decide_eq_true hz1
    clear hat hl hlm h0 hno hc0 hhd h6
    go_enter Tryd.func69, Tryd.ntmps69
    go_wp2_with fail
    go_ret2
    exact ⟨rfl, Below.refl _ _⟩
  have hno : numO l = digs 0 l := by
    unfold numO
    rw [if_neg]
    rintro (h | h | ⟨h, h'⟩)
    · rw [h] at hlm; simp at hlm; omega
    · omega
    · rw [hhd] at h'
      exact hz ⟨by omega, by injection h'⟩
  rw [hno]
  obtain ⟨o, ho⟩ : ∃ o, digs 0 l = o := ⟨_, rfl⟩
  rw [ho]
  have HO := Lib.hid ho
  have HAT := Lib.hid hat
  have HLM := Lib.hid hlm
  obtain ⟨z1, hz1⟩ : ∃ z, decide ((m : Int) > 1) = z := ⟨_, rfl⟩
  have hz1' : decide (1 < m) = z1 := by rw [← hz1]; congr 1; exact propext (by omega)
  obtain ⟨p0, hp0⟩ : ∃ p, c0.toNat = p := ⟨_, rfl⟩
  rw [hp0] at b0
  have hzz : (z1 && ((p0 : Int) == 48)) = false := by
    rw [← hz1', ← hp0]
    by_cases h1 : 1 < m
    · have hne : c0 ≠ 48 := fun e => hz ⟨h1, e⟩
      have hne2 : ¬ (c0.toNat : Int) = 48 := fun e => hne (UInt8.toNat_inj.1 (by show c0.toNat = 48; omega))
      simp [hne2]
    · simp [h1]
  have hm6 : m ≤ 6 := by omega
  have hm0 : 0 < m := by omega
  clear hat hl hlm h0 hno hc0 hhd h6 hz hp0 ho
  have BI := Lib.hid (show Below w.heap.size w (w.iter s 0) from below_one _ _)
  have D0 := Lib.hid (show digs 0 (l.drop 0) = o from by rw [List.drop_zero]; exact HO.out)
  cases z1
  case true =>
    have hzz : ((p0 : Int) == 48) = false := hzz
    go_enter Tryd.func69, Tryd.ntmps69
    go_wp2_with fail
    go_loopw [4] (fun nv wr => ∃ (pos n : Nat), pos ≤ m ∧ nv = .int .i64 n ∧ Hid (digs n (l.drop pos) = o) ∧ Hid (n + 1 ≤ 10 ^ pos) ∧ wr = w.iter s pos) (fun _ wr => m - wr.iterPos w.heap.size)
    case atStart => exact ⟨0, 0, by omega, rfl, D0, Lib.hid (by decide), rfl⟩
    case round =>
      obtain ⟨pos, n, hpos, rfl, hD, hN, rfl⟩ := hrel
      by_cases hlt : pos < m
      · have hls : pos < s.size := by omega
        have hll : pos < l.length := by rw [HLM.out]; exact hlt
        obtain ⟨_, hby⟩ := HAT.out pos _ (List.getElem?_eq_getElem hll)
        have hdr : l.drop pos = l[pos] :: l.drop (pos + 1) := List.drop_eq_getElem_cons hll
        have hD2 := hD.out
        rw [hdr] at hD2
        obtain ⟨c, hc⟩ : ∃ c, l[pos] = c := ⟨_, rfl⟩
        rw [hc] at hD2 hby
        unfold digs at hD2
        have hn9 : n ≤ 99999 := by
          have h1 : 10 ^ pos ≤ 10 ^ 5 := Nat.pow_le_pow_right (by omega) (by omega)
          have := hN.out; omega
        by_cases hd : 48 ≤ c.toNat ∧ c.toNat ≤ 57
        · rw [if_pos hd] at hD2
          have hnx := fun ty => run_next_ascii (P := Tryd.prog) w s pos ty hls (by rw [hby]; omega)
          rw [hby] at hnx
          obtain ⟨r, hr⟩ : ∃ r, c.toNat = r := ⟨_, rfl⟩
          rw [hr] at hnx hD2 hd
          obtain ⟨n2, hn2⟩ : ∃ n2, n * 10 + (r - 48) = n2 := ⟨_, rfl⟩
          rw [hn2] at hD2
          have D2 := Lib.hid hD2
          have N2 := Lib.hid (show n2 + 1 ≤ 10 ^ (pos + 1) from by rw [Nat.pow_succ]; have := hN.out; omega)
          have g1 : decide ((r : Int) < 48) = false := decide_eq_false (by omega)
          have g1' : decide (r < 48) = false := decide_eq_false (by omega)
          have g2 : decide ((r : Int) > 57) = false := decide_eq_false (by omega)
          have g2' : decide (57 < r) = false := decide_eq_false (by omega)
          obtain ⟨v, hv⟩ : ∃ v : Nat, r - 48 = v := ⟨_, rfl⟩
          have g3 : wrap32 ((r : Int) - 48) = (v : Int) := by rw [IntWalk.wrap32_in _ (by omega)]; omega
          have g4 : IntKind.i64.wrap ((n : Int) * 10) = ((n * 10 : Nat) : Int) := by rw [IntWalk.i64_in _ (by omega)]; omega
          have g5 : IntKind.i64.wrap (((n : Int) * 10) + (v : Int)) = (n2 : Int) := by rw [IntWalk.i64_in _ (by omega)]; omega
          have g6 : IntKind.i64.wrap (v : Int) = (v : Int) := IntWalk.i64_in _ (by omega)
          have HN2 := Lib.hid (show n * 10 + r = n2 + 48 from by omega)
          clear hr hn2 hby hdr hc hv
          go_wp2_with fail
          go_roundw
          case rel => exact ⟨pos + 1, n2, by omega, by have := HN2.out; go_num, D2, N2, rfl⟩
          case measure => simp; omega
        · rw [if_neg hd] at hD2
          have hnx := fun ty => run_next_any (P := Tryd.prog) w s pos ty hls
          have hnd := no_digit s pos hls (by rw [hby]; exact hd)
          obtain ⟨r, hr⟩ : ∃ r, (Utf8.decode s pos).1 = r := ⟨_, rfl⟩
          obtain ⟨wd, hwd⟩ : ∃ wd, (Utf8.decode s pos).2 = wd := ⟨_, rfl⟩
          rw [hr, hwd] at hnx
          rw [hr] at hnd
          subst hD2
          clear hr hwd hby hdr hc hd
          by_cases h48 : r < 48
          · have g1 : decide ((r : Int) < 48) = true := decide_eq_true (by omega)
            have g1' : decide (r < 48) = true := decide_eq_true h48
            clear hnd h48
            go_wp2_with fail
            go_ret2
            exact ⟨rfl, below_one _ _⟩
          · have g1 : decide ((r : Int) < 48) = false := decide_eq_false (by omega)
            have g1' : decide (r < 48) = false := decide_eq_false h48
            have g2 : decide ((r : Int) > 57) = true := decide_eq_true (by omega)
            have g2' : decide (57 < r) = true := decide_eq_true (by omega)
            clear hnd h48
            go_wp2_with fail
            go_ret2
            exact ⟨rfl, below_one _ _⟩
      · have hls : ¬ pos < s.size := by omega
        have hnx := fun ty => run_next_end (P := Tryd.prog) w s pos ty hls
        have hD2 := hD.out
        rw [List.drop_eq_nil_of_le (by rw [HLM.out]; omega)] at hD2
        simp only [digs] at hD2
        subst hD2
        go_wp2_with fail
        go_ret2
        exact ⟨rfl, below_one _ _⟩
  case false =>
    go_enter Tryd.func69, Tryd.ntmps69
    go_wp2_with fail
    go_loopw [4] (fun nv wr => ∃ (pos n : Nat), pos ≤ m ∧ nv = .int .i64 n ∧ Hid (digs n (l.drop pos) = o) ∧ Hid (n + 1 ≤ 10 ^ pos) ∧ wr = w.iter s pos) (fun _ wr => m - wr.iterPos w.heap.size)
    case atStart => exact ⟨0, 0, by omega, rfl, D0, Lib.hid (by decide), rfl⟩
    case round =>
      obtain ⟨pos, n, hpos, rfl, hD, hN, rfl⟩ := hrel
      by_cases hlt : pos < m
      · have hls : pos < s.size := by omega
        have hll : pos < l.length := by rw [HLM.out]; exact hlt
        obtain ⟨_, hby⟩ := HAT.out pos _ (List.getElem?_eq_getElem hll)
        have hdr : l.drop pos = l[pos] :: l.drop (pos + 1) := List.drop_eq_getElem_cons hll
        have hD2 := hD.out
        rw [hdr] at hD2
        obtain ⟨c, hc⟩ : ∃ c, l[pos] = c := ⟨_, rfl⟩
        rw [hc] at hD2 hby
        unfold digs at hD2
        have hn9 : n ≤ 99999 := by
          have h1 : 10 ^ pos ≤ 10 ^ 5 := Nat.pow_le_pow_right (by omega) (by omega)
          have := hN.out; omega
        by_cases hd : 48 ≤ c.toNat ∧ c.toNat ≤ 57
        · rw [if_pos hd] at hD2
          have hnx := fun ty => run_next_ascii (P := Tryd.prog) w s pos ty hls (by rw [hby]; omega)
          rw [hby] at hnx
          obtain ⟨r, hr⟩ : ∃ r, c.toNat = r := ⟨_, rfl⟩
          rw [hr] at hnx hD2 hd
          obtain ⟨n2, hn2⟩ : ∃ n2, n * 10 + (r - 48) = n2 := ⟨_, rfl⟩
          rw [hn2] at hD2
          have D2 := Lib.hid hD2
          have N2 := Lib.hid (show n2 + 1 ≤ 10 ^ (pos + 1) from by rw [Nat.pow_succ]; have := hN.out; omega)
          have g1 : decide ((r : Int) < 48) = false := decide_eq_false (by omega)
          have g1' : decide (r < 48) = false := decide_eq_false (by omega)
          have g2 : decide ((r : Int) > 57) = false := decide_eq_false (by omega)
          have g2' : decide (57 < r) = false := decide_eq_false (by omega)
          obtain ⟨v, hv⟩ : ∃ v : Nat, r - 48 = v := ⟨_, rfl⟩
          have g3 : wrap32 ((r : Int) - 48) = (v : Int) := by rw [IntWalk.wrap32_in _ (by omega)]; omega
          have g4 : IntKind.i64.wrap ((n : Int) * 10) = ((n * 10 : Nat) : Int) := by rw [IntWalk.i64_in _ (by omega)]; omega
          have g5 : IntKind.i64.wrap (((n : Int) * 10) + (v : Int)) = (n2 : Int) := by rw [IntWalk.i64_in _ (by omega)]; omega
          have g6 : IntKind.i64.wrap (v : Int) = (v : Int) := IntWalk.i64_in _ (by omega)
          have HN2 := Lib.hid (show n * 10 + r = n2 + 48 from by omega)
          clear hr hn2 hby hdr hc hv
          go_wp2_with fail
          go_roundw
          case rel => exact ⟨pos + 1, n2, by omega, by have := HN2.out; go_num, D2, N2, rfl⟩
          case measure => simp; omega
        · rw [if_neg hd] at hD2
          have hnx := fun ty => run_next_any (P := Tryd.prog) w s pos ty hls
          have hnd := no_digit s pos hls (by rw [hby]; exact hd)
          obtain ⟨r, hr⟩ : ∃ r, (Utf8.decode s pos).1 = r := ⟨_, rfl⟩
          obtain ⟨wd, hwd⟩ : ∃ wd, (Utf8.decode s pos).2 = wd := ⟨_, rfl⟩
          rw [hr, hwd] at hnx
          rw [hr] at hnd
          subst hD2
          clear hr hwd hby hdr hc hd
          by_cases h48 : r < 48
          · have g1 : decide ((r : Int) < 48) = true := decide_eq_true (by omega)
            have g1' : decide (r < 48) = true := decide_eq_true h48
            clear hnd h48
            go_wp2_with fail
            go_ret2
            exact ⟨rfl, below_one _ _⟩
          · have g1 : decide ((r : Int) < 48) = false := decide_eq_false (by omega)
            have g1' : decide (r < 48) = false := decide_eq_false h48
            have g2 : decide ((r : Int) > 57) = true := decide_eq_true (by omega)
            have g2' : decide (57 < r) = true := decide_eq_true (by omega)
            clear hnd h48
            go_wp2_with fail
            go_ret2
            exact ⟨rfl, below_one _ _⟩
      · have hls : ¬ pos < s.size := by omega
        have hnx := fun ty => run_next_end (P := Tryd.prog) w s pos ty hls
        have hD2 := hD.out
        rw [List.drop_eq_nil_of_le (by rw [HLM.out]; omega)] at hD2
        simp only [digs] at hD2
        subst hD2
        go_wp2_with fail
        go_ret2
        exact ⟨rfl, below_one _ _⟩
end Go.Proofs.YtmddnklafplikaaDoor
namespace Go.Proofs.YtmddnklafplikaaDoor
open Go.RowKit
set_option linter.unusedVariables false
set_option maxRecDepth 20000
def bytesL (ts : List Tx) : List (List UInt8) := ts.map fun t => t.data.toList
def NumsP (w : World) (o : Option (List Int)) (e : Ending) (w' : World) : Prop := Below w.heap.size w w' ∧ match o with
  | some ns => ∃ a c, e = .returned (.tuple #[.slice a ns.length c, .bool true]) ∧ HoldsI .i64 w' a ns.length ns ∧ ns.length ≤ c ∧ ∀ g o, a = some ⟨g, o, none⟩ → w.heap.size ≤ g
  | none => e = .returned (.tuple #[.slice none 0 0, .bool false])
def numRow (zs : List Int) : List Value := zs.map (Value.int .i64)
theorem numRow_snoc (l : List Int) (x : Int) : numRow (l ++ [x]) = numRow l ++ [.int .i64 x] := by simp [numRow]
theorem holdsI_own {w : World} {B : Nat} {e : TypeId} {a : Option Addr} {n c : Nat} {zs : List Int} (h : w.ownsRow B e 1 (.slice a n c) n (numRow zs)) : HoldsI .i64 w a n zs := by
  have hl : zs.length = n := by have := h.1; simp [numRow] at this; exact this
  refine ⟨hl, fun h0 => ?_⟩
  obtain ⟨b, o, ha, hc⟩ := (owns_holds h).2 h0
  refine ⟨b, o, ha, fun i hi => ?_⟩
  rw [hc i hi]
  unfold numRow
  rw [getD_map_int .i64 zs i (by omega)]
theorem numsO_app : ∀ (l : List (List UInt8)) (ns : List Int) (r : List (List UInt8)), numsO l = some ns → numsO (l ++ r) = (numsO r).map fun ms => ns ++ ms
  | [], ns, r, h => by simp [numsO] at h; subst h; simp
  | a :: l, ns, r, h => by
    unfold numsO at h
    split at h
    · cases h
    · rename_i n hn
      split at h
      · cases h
      · rename_i ns' h'
        injection h with h
        subst h
        rw [List.cons_append, numsO, hn, numsO_app l ns' r h']
        cases numsO r <;> rfl
theorem low_own {w : World} {B : Nat} {e : TypeId} {s n c m : Nat} {a : Option Addr} {xs : List Value} (h : w.ownsRow B e s (.slice a n c) m xs) : ∀ g o, a = some ⟨g, o, none⟩ → B ≤ g := by
  intro g o e1
  rcases h.2 with ⟨h0, _⟩ | ⟨g', cap, cur, hv, hB, _⟩
  · injection h0 with h0; rw [e1] at h0; cases h0
  · injection hv with hv; rw [e1] at hv; injection hv with hv; injection hv with hv; omega
set_option maxRecDepth 100000 in
set_option maxHeartbeats 3200000 in
theorem numbers_any (a : Option Addr) (n cp k : Nat) (ts : List Tx) (w : World) (hh : HoldsT w a n ts) (hn : n ≤ 9223372036854775807) (hz : ∀ t ∈ ts, t.size ≤ 1048576) (hk : k ≤ 10) :
    Calls Tryd.prog 70 #[.slice a n cp, .int .i64 k] w (NumsP w (numsK (bytesL ts) k)) := by
  have hl := hh.len
  have hbl : (bytesL ts).length = n := by simp [bytesL]; exact hl
  by_cases hnk : n = k
  case neg =>
    have e1 : numsK (bytesL ts) k = none := by unfold numsK; rw [if_neg (by omega)]
    rw [e1]
    have d1 : ((n : Int) != (k : Int)) = true := by simp; omega
    clear hh hl hbl hz e1
    go_enter Tryd.func70, Tryd.ntmps70
    go_wp2_with fail
    go_ret2
    exact ⟨Below.refl _ _, rfl⟩
  subst hnk
  have e1 : numsK (bytesL ts) n = numsO (bytesL ts) := by unfold numsK; rw [if_pos hbl]
  rw [e1]
  obtain ⟨i0, hii, hz0, hz1, hz2⟩ := info_parts (show (Tryd.prog.info? 3).map (fun i => (i.zero, i.size, i.bytes)) = some (some (.int .i64 0), 1, 8) from by kernel_rfl)
  have d1 : ((n : Int) != (n : Int)) = false := by simp
  have HH := Lib.hid hh; have HZ := Lib.hid hz; have HL := Lib.hid hl
  clear hh hz hl hbl e1
  go_enter Tryd.func70, Tryd.ntmps70
  go_wp2_with fail
  go_loopw [6, 17] (fun ov iv wr => ∃ (i : Nat) (ns : List Int) (av : Option Addr) (cv : Nat), i ≤ n ∧ iv = .int .i64 i ∧ ov = .slice av i cv ∧ Hid (numsO (bytesL (ts.take i)) = some ns) ∧ Hid (wr.ownsRow w.heap.size 3 1 (.slice av i cv) i (numRow ns)) ∧ Hid (Below w.heap.size w wr)) (fun _ iv _ => n - (intOf iv).toNat)
  case atStart => exact ⟨0, [], none, 0, by omega, rfl, rfl, Lib.hid rfl, Lib.hid (World.ownsRow_nil _ _ _ _), Lib.hid (Below.refl _ _)⟩
  case round =>
    obtain ⟨i, ns, av, cv, hi, rfl, rfl, hN, hO, hB⟩ := hrel
    by_cases hlt : i < n
    · obtain ⟨bb, oo, rfl, hc⟩ := (HH.out.below hB.out).at (by omega)
      have x0 := hc i hlt
      have hmem : ts.getD i ByteArray.empty ∈ ts := by
        rw [List.getD_eq_getElem?_getD, List.getElem?_eq_getElem (by rw [HL.out]; exact hlt)]; simp
      have hts := HZ.out _ hmem
      have htk : ts.take (i + 1) = ts.take i ++ [ts.getD i ByteArray.empty] := by
        rw [List.take_add_one, List.getD_eq_getElem?_getD, List.getElem?_eq_getElem (by rw [HL.out]; exact hlt)]; rfl
      have hdr : ts = ts.take i ++ ts.getD i ByteArray.empty :: ts.drop (i + 1) := by
        conv => lhs; rw [← List.take_append_drop (i + 1) ts, htk]
        simp
      obtain ⟨t, ht⟩ : ∃ t, ts.getD i ByteArray.empty = t := ⟨_, rfl⟩
      rw [ht] at x0 hts htk hdr
      have CN := Lib.hid (fun w => number_any t w hts)
      obtain ⟨o, ho⟩ : ∃ o, numO t.data.toList = o := ⟨_, rfl⟩
      rw [ho] at CN
      have n2 : (i : Int) < (n : Int) := by omega
      cases o with
      | none =>
        have hall : numsO (bytesL ts) = none := by
          rw [hdr]
          unfold bytesL at hN ⊢
          rw [List.map_append, numsO_app _ _ _ hN.out, List.map_cons, numsO, ho]
          rfl
        have HALL := Lib.hid hall
        clear ht ho hdr htk hmem hc hall
        go_wp2_with fail
        refine (CN.out _).mono ?_
        rintro e w4 ⟨rfl, hb4⟩
        go_wp2_with fail
        go_ret2
        refine ⟨hB.out.trans (hb4.mono hB.out.size), ?_⟩
        rw [HALL.out]
        rfl
      | some v =>
        have N2 := Lib.hid (show numsO (bytesL (ts.take (i + 1))) = some (ns ++ [(v : Int)]) from by
          rw [htk]
          unfold bytesL at hN ⊢
          rw [List.map_append, numsO_app _ _ _ hN.out]
          simp [numsO, ho])
        clear ht ho hdr htk hmem hc
        go_wp2_with fail
        refine (CN.out _).mono ?_
        rintro e w4 ⟨rfl, hb4⟩
        have O4 := Lib.hid (owns_below hO.out hb4)
        have B4 := Lib.hid (hB.out.trans (hb4.mono hB.out.size))
        clear hb4 hO hB
        go_wp2_with (at_builtin; (refine wpList_append_any rfl (.tmp 28) (.tmp 30) 73 rfl w.heap.size 3 i0 (.int .i64 0) 1 8 Tryd.underlying73 hii hz0 hz1 hz2 rfl (by decide) _ i _ rfl (O4.out.alloc _) _ 1 1 [.int .i64 (v : Int)] rfl (some_none _) rfl (one_new _ _ _ _) (one_int _ _) (by unfold maxLen; omega) (by omega) (by have := B4.out.size; simp; omega) ?_); intro a3 c3 w3 hown3 hb3 hnil3)
        have O3 := Lib.hid (show w3.ownsRow w.heap.size 3 1 (.slice a3 (i + 1) c3) (i + 1) (numRow (ns ++ [(v : Int)])) from by rw [numRow_snoc]; exact hown3)
        have B3 := Lib.hid ((B4.out.alloc B4.out.size _).trans hb3)
        clear hown3 hb3 hnil3 O4 B4
        go_wp2_with fail
        go_roundw
        case rel => exact ⟨i + 1, _, a3, c3, by omega, by go_num, rfl, N2, O3, B3⟩
        case measure => simp [intOf] <;> omega
    · obtain rfl : i = n := by omega
      have hall : numsO (bytesL ts) = some ns := by have := hN.out; rwa [List.take_of_length_le (by rw [HL.out]; omega)] at this
      have HALL := Lib.hid hall
      have hlen : ns.length = i := by have := hO.out.1; simp [numRow] at this; exact this
      have HI := Lib.hid (holdsI_own hO.out)
      have HC := Lib.hid (owns_none hO.out).2
      have HLN := Lib.hid hlen
      have HG := Lib.hid (low_own hO.out)
      clear hall hlen
      go_wp2_with fail
      go_ret2
      refine ⟨hB.out, ?_⟩
      rw [HALL.out]
      refine ⟨av, cv, ?_, ?_, ?_, HG.out⟩
      · rw [HLN.out]; rfl
      · rw [HLN.out]; exact HI.out
      · rw [HLN.out]; exact HC.out
end Go.Proofs.YtmddnklafplikaaDoor
namespace Go.Proofs.YtmddnklafplikaaDoor
open Go.Shelf Go.RowKit
set_option linter.unusedVariables false
set_option maxRecDepth 20000
def Tryd.lays146_ren : Go.Shelf.Ren := ⟨fun | 146 => 51 | 221 => 67 | 268 => 75 | 138 => 76 | 143 => 77 | 195 => 84 | 197 => 85 | 218 => 86 | 219 => 87 | 260 => 94 | 217 => 59 | 225 => 95 | 224 => 96 | 267 => 97 | 266 => 71 | 314 => 100 | n => n, fun | 9 => 9 | 31 => 27 | 3 => 3 | 4 => 4 | 0 => 0 | 105 => 121 | 21 => 21 | 5 => 5 | 46 => 59 | 119 => 131 | 139 => 134 | 138 => 133 | 146 => 135 | 51 => 127 | n => n, fun | 1 => 0 | 3 => 2 | 4 => 3 | n => n⟩
theorem Tryd.lays146 : Go.Proofs.Lays.n146 Tryd.prog Tryd.lays146_ren := {
  mixed := by kernel_rfl
  f138 := Tryd.func76.trans (congrArg some (by kernel_rfl))
  f143 := Tryd.func77.trans (congrArg some (by kernel_rfl))
  f146 := Tryd.func51.trans (congrArg some (by kernel_rfl))
  f195 := Tryd.func84.trans (congrArg some (by kernel_rfl))
  f197 := Tryd.func85.trans (congrArg some (by kernel_rfl))
  f217 := Tryd.func59.trans (congrArg some (by kernel_rfl))
  f218 := Tryd.func86.trans (congrArg some (by kernel_rfl))
  f219 := Tryd.func87.trans (congrArg some (by kernel_rfl))
  f221 := Tryd.func67.trans (congrArg some (by kernel_rfl))
  f224 := Tryd.func96.trans (congrArg some (by kernel_rfl))
  f225 := Tryd.func95.trans (congrArg some (by kernel_rfl))
  f260 := Tryd.func94.trans (congrArg some (by kernel_rfl))
  f266 := Tryd.func71.trans (congrArg some (by kernel_rfl))
  f267 := Tryd.func97.trans (congrArg some (by kernel_rfl))
  f268 := Tryd.func75.trans (congrArg some (by kernel_rfl))
  f314 := Tryd.func100.trans (congrArg some (by kernel_rfl))
  t0 := Tryd.underlying0
  a0 := Tryd.isAgg0
  z0 := Tryd.sizeOf0
  v0 := Tryd.zeroValue0
  t3 := Tryd.underlying3
  a3 := Tryd.isAgg3
  z3 := Tryd.sizeOf3
  v3 := Tryd.zeroValue3
  t4 := Tryd.underlying4
  a4 := Tryd.isAgg4
  z4 := Tryd.sizeOf4
  v4 := Tryd.zeroValue4
  t5 := Tryd.underlying5
  a5 := Tryd.isAgg5
  z5 := Tryd.sizeOf5
  v5 := Tryd.zeroValue5
  t9 := Tryd.underlying9
  a9 := Tryd.isAgg9
  z9 := Tryd.sizeOf9
  v9 := Tryd.zeroValue9
  t21 := Tryd.underlying21
  a21 := Tryd.isAgg21
  z21 := Tryd.sizeOf21
  v21 := Tryd.zeroValue21
  t31 := Tryd.underlying27
  a31 := Tryd.isAgg27
  z31 := Tryd.sizeOf27
  v31 := Tryd.zeroValue27
  t46 := Tryd.underlying59
  a46 := Tryd.isAgg59
  z46 := Tryd.sizeOf59
  v46 := Tryd.zeroValue59
  t51 := Tryd.underlying127
  a51 := Tryd.isAgg127
  z51 := Tryd.sizeOf127
  v51 := Tryd.zeroValue127
  t105 := Tryd.underlying121
  a105 := Tryd.isAgg121
  z105 := Tryd.sizeOf121
  v105 := Tryd.zeroValue121
  t119 := Tryd.underlying131
  a119 := Tryd.isAgg131
  z119 := Tryd.sizeOf131
  t138 := Tryd.underlying133
  a138 := Tryd.isAgg133
  z138 := Tryd.sizeOf133
  v138 := Tryd.zeroValue133
  t139 := Tryd.underlying134
  a139 := Tryd.isAgg134
  z139 := Tryd.sizeOf134
  v139 := Tryd.zeroValue134
  t146 := Tryd.underlying135
  a146 := Tryd.isAgg135
  z146 := Tryd.sizeOf135
  v146 := Tryd.zeroValue135
  g1 := by kernel_rfl
  g3 := by kernel_rfl
  g4 := by kernel_rfl }
def Tryd.lays102_ren : Go.Shelf.Ren := ⟨fun | 102 => 52 | 209 => 68 | 207 => 78 | n => n, fun | 9 => 9 | 4 => 4 | 3 => 3 | n => n, fun | n => n⟩
theorem Tryd.lays102 : Go.Proofs.Lays.n102 Tryd.prog Tryd.lays102_ren := {
  mixed := by kernel_rfl
  f102 := Tryd.func52.trans (congrArg some (by kernel_rfl))
  f207 := Tryd.func78.trans (congrArg some (by kernel_rfl))
  f209 := Tryd.func68.trans (congrArg some (by kernel_rfl))
  t3 := Tryd.underlying3
  a3 := Tryd.isAgg3
  z3 := Tryd.sizeOf3
  v3 := Tryd.zeroValue3
  t4 := Tryd.underlying4
  a4 := Tryd.isAgg4
  z4 := Tryd.sizeOf4
  v4 := Tryd.zeroValue4
  t9 := Tryd.underlying9
  a9 := Tryd.isAgg9
  z9 := Tryd.sizeOf9
  v9 := Tryd.zeroValue9 }
theorem index_cons (b c : UInt8) (l : List UInt8) : Lib.index (b :: l) [c] = if c = b then 0 else if Lib.index l [c] = -1 then -1 else Lib.index l [c] + 1 := by
  rw [Lib.index]
  by_cases h : c = b
  · subst h; simp
  · rw [if_neg h]
    have h2 : [c].isPrefixOf (b :: l) = false := by simp [List.isPrefixOf, h]
    rw [h2]
    simp
theorem splitK_one (c : UInt8) : ∀ l : List UInt8, Lib.splitK [c] 0 (Lib.count l [c]) l = splitL c l
  | [] => by rw [Lib.count_one]; rfl
  | b :: l => by
    have ih := splitK_one c l
    rw [Lib.count_one] at ih ⊢
    by_cases h : b = c
    · subst h
      rw [List.count_cons_self, Lib.splitK, splitL, if_pos rfl]
      have hi : Lib.index (b :: l) [b] = 0 := by rw [index_cons, if_pos rfl]
      rw [hi]
      simp [ih]
    · have hne : c ≠ b := fun e => h e.symm
      rw [List.count_cons_of_ne h, splitL, if_neg h, ← ih]
      cases hk : l.count c with
      | zero => simp [Lib.splitK]
      | succ k =>
        have hi : Lib.index (b :: l) [c] = if Lib.index l [c] = -1 then -1 else Lib.index l [c] + 1 := by rw [index_cons, if_neg hne]
        have hg := Lib.index_ge l [c]
        unfold Lib.splitK
        by_cases hx : Lib.index l [c] = -1
        · rw [hi, hx]; simp
        · rw [hi, if_neg hx]
          have e1 : ¬ (Lib.index l [c] + 1 == -1) = true := by simp; omega
          have e2 : ¬ (Lib.index l [c] == -1) = true := by simpa using hx
          rw [if_neg e1, if_neg e2]
          obtain ⟨i, hii⟩ : ∃ i : Nat, Lib.index l [c] = i := ⟨(Lib.index l [c]).toNat, by omega⟩
          rw [hii]
          have e3 : ((i : Int) + 1).toNat = i + 1 := by omega
          rw [e3, Int.toNat_natCast]
          simp
def SplP (w : World) (ls : List (List UInt8)) (e : Ending) (w' : World) : Prop := ∃ (ts : List Tx) (n : Nat), e = .returned (.slice (some ⟨w.heap.size, 0, none⟩) n n) ∧ HoldsT w' (some ⟨w.heap.size, 0, none⟩) n ts ∧ bytesL ts = ls ∧ Below w.heap.size w w' ∧ n = ls.length
theorem cells_texts (w : World) (ts : List Tx) (e : TypeId) : HoldsT (w.alloc (.cells (ts.map Value.string).toArray e)) (some ⟨w.heap.size, 0, none⟩) ts.length ts :=
  HoldsT.of rfl fun i hi => by
    rw [Nat.zero_add, World.cell?_alloc_mark]
    simp [List.getD_eq_getElem?_getD, hi]
theorem hi9 : (Tryd.prog.info? 9).map (fun i => (i.zero, i.size, i.bytes)) = some (some (.string ByteArray.empty), 1, 16) := by kernel_rfl
/-- internal/bytealg.MaxLen holds a number -/
def MaxL (w : World) : Prop := ∃ m : Int, w.cell? ⟨0, 0, none⟩ = some (.int .i64 m)
theorem MaxL.below {w w' : World} {B : Nat} (h : MaxL w) (hb : Below B w w') (hB : w.heap.size ≤ B) : MaxL w' := by
  obtain ⟨m, hm⟩ := h
  exact ⟨m, (hb.cell (p := ⟨0, 0, none⟩) (Nat.lt_of_lt_of_le (lt_of_cell hm) hB)).trans hm⟩
theorem split_any (c : UInt8) (s sep : ByteArray) (w : World) (hs : s.size ≤ 1048576) (hm : MaxL w) (hc : sep.data.toList = [c]) (h1 : sep.size = 1) :
    Calls Tryd.prog 51 #[.string s, .string sep] w (SplP w (splitL c s.data.toList)) := by
  obtain ⟨m, hm⟩ := hm
  refine (Any.strings_Split Tryd.lays146 hi9 s sep m w (by omega) hm (by omega)).mono ?_
  rintro e w' ⟨rfl, rfl⟩
  have hd := Lib.splitB_data sep 0 (Lib.countB s sep) s
  rw [hc] at hd
  have hcb : Lib.countB s sep = Lib.count s.data.toList [c] := by unfold Lib.countB; rw [hc]
  rw [hcb] at hd
  rw [splitK_one] at hd
  rw [← hcb] at hd
  have hlen : (Lib.splitB sep 0 (Lib.countB s sep) s).length = Lib.countB s sep + 1 := Lib.splitB_all sep (by omega) 0 _ s rfl
  have hh := cells_texts w (Lib.splitB sep 0 (Lib.countB s sep) s) 9
  rw [hlen] at hh
  exact ⟨_, _, rfl, hh, hd, below_one _ _, by rw [← hd, List.length_map, hlen]⟩
theorem trim_any (s : ByteArray) (w : World) (hs : s.size ≤ 1048576) :
    Calls Tryd.prog 52 #[.string s, .string { data := #[10] }] w fun e w' => (∃ t : ByteArray, e = .returned (.string t) ∧ t.data.toList = trimN s.data.toList) ∧ w' = w := by
  refine (Any.strings_TrimSuffix Tryd.lays102 s { data := #[10] } w (by omega)).mono ?_
  rintro e w' ⟨rfl, rfl⟩
  refine ⟨⟨_, rfl, ?_⟩, rfl⟩
  show Lib.trimSuffix s.data.toList [10] = trimN s.data.toList
  unfold Lib.trimSuffix Lib.hasSuffix trimN
  generalize s.data.toList = l
  by_cases h : l.getLast? = some 10
  · rw [if_pos h]
    have hne : l ≠ [] := by rintro rfl; cases h
    have e : l = l.dropLast ++ [10] := by
      have h1 := List.dropLast_concat_getLast hne
      rw [List.getLast?_eq_some_getLast hne] at h
      injection h with h
      rw [h] at h1
      exact h1.symm
    rw [if_pos (by rw [List.isSuffixOf_iff_suffix]; exact ⟨l.dropLast, e.symm⟩), List.dropLast_eq_take]
    rfl
  · rw [if_neg h, if_neg]
    rw [List.isSuffixOf_iff_suffix]
    rintro ⟨t, rfl⟩
    exact h (by simp)
def LinP (w : World) (ls : List (List UInt8)) (e : Ending) (w' : World) : Prop := ∃ (a : Option Addr) (ts : List Tx) (n : Nat), e = .returned (.slice a n n) ∧ HoldsT w' a n ts ∧ bytesL ts = ls ∧ Below w.heap.size w w' ∧ n = ls.length ∧ ∀ g o, a = some ⟨g, o, none⟩ → w.heap.size ≤ g
set_option maxRecDepth 100000 in
theorem lines_any (s : ByteArray) (w : World) (hs : s.size ≤ 1048576) (hm : MaxL w) : Calls Tryd.prog 35 #[.string s] w (LinP w (linesL s.data.toList)) := by
  by_cases h0 : s = ByteArray.empty
  · subst h0
    go_enter Tryd.func35, Tryd.ntmps35
    go_wp2_with fail
    go_ret
    exact ⟨none, [], 0, rfl, HoldsT.nil _ _, rfl, Below.refl _ _, rfl, fun g o h => by cases h⟩
  · have hsl : s.toList ≠ [] := fun e => h0 (toList_inj (by rw [e]; simp))
    have n1 : (s.toList == []) = false := by simpa using hsl
    have hl0 : s.data.toList ≠ [] := fun e => h0 (ByteArray.ext (Array.toList_inj.1 (by rw [e]; rfl)))
    have CT := Lib.hid (fun w => trim_any s w hs)
    obtain ⟨l, hl⟩ : ∃ l, s.data.toList = l := ⟨_, rfl⟩
    rw [hl] at CT hl0
    have hll : l.length = s.size := by rw [← hl]; exact Array.length_toList
    have HLL := Lib.hid hll
    have HL0 := Lib.hid hl0
    rw [hl]
    clear hl hsl h0 hll hl0
    go_enter Tryd.func35, Tryd.ntmps35
    go_wp2_with fail
    refine (CT.out _).mono ?_
    rintro e w' ⟨⟨t, rfl, ht⟩, rfl⟩
    have hts : t.size ≤ 1048576 := by
      have h1 : t.size = t.data.toList.length := by simp
      rw [h1, ht]
      unfold trimN
      have := HLL.out
      split
      · rw [List.length_dropLast]; omega
      · omega
    have CS := Lib.hid (split_any 10 t { data := #[10] } w' hts hm rfl rfl)
    rw [ht] at CS
    clear ht hts
    go_wp2_with fail
    refine CS.out.mono ?_
    rintro e w4 ⟨ts, n, rfl, hT, hb, hB, hn⟩
    have HT := Lib.hid hT; have HB := Lib.hid hb; have HW := Lib.hid hB; have HN := Lib.hid hn
    clear hT hb hB hn
    go_wp2_with fail
    go_ret
    refine ⟨_, ts, n, rfl, HT.out, ?_, HW.out, ?_, fun g o h => by injection h with h; injection h with h; omega⟩
    · rw [HB.out]; unfold linesL; rw [if_neg HL0.out]
    · rw [HN.out]; unfold linesL; rw [if_neg HL0.out]
end Go.Proofs.YtmddnklafplikaaDoor
namespace Go.Proofs.YtmddnklafplikaaDoor
open Go.Shelf Go.RowKit
set_option linter.unusedVariables false
set_option maxRecDepth 20000
def Tryd.lays156_ren : Go.Shelf.Ren := ⟨fun | 156 => 65 | 165 => 73 | 166 => 64 | 169 => 24 | 240 => 38 | 241 => 79 | 276 => 58 | 277 => 88 | n => n, fun | 31 => 27 | 9 => 9 | 3 => 3 | 4 => 4 | 0 => 0 | 20 => 20 | 72 => 54 | 76 => 100 | 70 => 51 | 37 => 52 | 75 => 56 | 127 => 81 | 164 => 95 | 5 => 5 | 80 => 60 | n => n, fun | n => n⟩
theorem Tryd.lays156 : Go.Proofs.Lays.n156 Tryd.prog Tryd.lays156_ren := {
  mixed := by kernel_rfl
  f156 := Tryd.func65.trans (congrArg some (by kernel_rfl))
  f165 := Tryd.func73.trans (congrArg some (by kernel_rfl))
  f166 := Tryd.func64.trans (congrArg some (by kernel_rfl))
  f169 := Tryd.func24.trans (congrArg some (by kernel_rfl))
  f240 := Tryd.func38.trans (congrArg some (by kernel_rfl))
  f241 := Tryd.func79.trans (congrArg some (by kernel_rfl))
  f276 := Tryd.func58.trans (congrArg some (by kernel_rfl))
  f277 := Tryd.func88.trans (congrArg some (by kernel_rfl))
  t0 := Tryd.underlying0
  a0 := Tryd.isAgg0
  z0 := Tryd.sizeOf0
  v0 := Tryd.zeroValue0
  t3 := Tryd.underlying3
  a3 := Tryd.isAgg3
  z3 := Tryd.sizeOf3
  v3 := Tryd.zeroValue3
  t4 := Tryd.underlying4
  a4 := Tryd.isAgg4
  z4 := Tryd.sizeOf4
  v4 := Tryd.zeroValue4
  t9 := Tryd.underlying9
  a9 := Tryd.isAgg9
  z9 := Tryd.sizeOf9
  v9 := Tryd.zeroValue9
  t20 := Tryd.underlying20
  a20 := Tryd.isAgg20
  z20 := Tryd.sizeOf20
  v20 := Tryd.zeroValue20
  t31 := Tryd.underlying27
  a31 := Tryd.isAgg27
  z31 := Tryd.sizeOf27
  v31 := Tryd.zeroValue27
  t37 := Tryd.underlying52
  a37 := Tryd.isAgg52
  z37 := Tryd.sizeOf52
  v37 := Tryd.zeroValue52
  t70 := Tryd.underlying51
  a70 := Tryd.isAgg51
  z70 := Tryd.sizeOf51
  v70 := Tryd.zeroValue51
  t72 := Tryd.underlying54
  a72 := Tryd.isAgg54
  z72 := Tryd.sizeOf54
  v72 := Tryd.zeroValue54
  t75 := Tryd.underlying56
  a75 := Tryd.isAgg56
  z75 := Tryd.sizeOf56
  v75 := Tryd.zeroValue56
  t76 := Tryd.underlying100
  a76 := Tryd.isAgg100
  z76 := Tryd.sizeOf100
  v76 := Tryd.zeroValue100
  t127 := Tryd.underlying81
  a127 := Tryd.isAgg81
  z127 := Tryd.sizeOf81
  v127 := Tryd.zeroValue81
  t164 := Tryd.underlying95
  a164 := Tryd.isAgg95
  z164 := Tryd.sizeOf95
  v164 := Tryd.zeroValue95 }
theorem Tryd.Builder_Extra_156 : Builder.Extra Tryd.prog Tryd.lays156_ren := {
  sizeBuilder := by kernel_rfl
  liesBuilder := by kernel_rfl
  t5 := Tryd.underlying5
  a5 := Tryd.isAgg5
  z5 := Tryd.sizeOf5
  v5 := Tryd.zeroValue5
  infoByte := by kernel_rfl
  cellsByte := by kernel_rfl
  sizeByte := by kernel_rfl
  neB5 := by decide }
theorem PageIs.below {B b : Nat} {l : List UInt8} {w w' : World} (h : PageIs B b l w) (hb : Below w.heap.size w w') : PageIs B b l w' := by
  have key : ∀ p, Lib.BuilderAtF 68 5 B b p (Lib.byteCells l) w → Lib.BuilderAtF 68 5 B b p (Lib.byteCells l) w' := by
    rintro p ⟨hB, v, hbk, hown, hne⟩
    have hlt : b < w.heap.size := by
      rcases Nat.lt_or_ge b w.heap.size with h' | h'
      · exact h'
      · simp [Array.getElem?_eq_none h'] at hbk
    exact ⟨hB, v, (hb.block b hlt).trans hbk, hown.kept (row := some b) ⟨hb.os, hb.tape, hb.output, hb.size, fun k hk _ => hb.block k hk⟩ (Or.inr hne), hne⟩
  rcases h with h | h
  · exact Or.inl (key _ h)
  · exact Or.inr (key _ h)
theorem join_any (a : Option Addr) (n c : Nat) (ts : List Tx) (w : World) (h : HoldsT w a n ts) (hn : 0 < n) (hc : n ≤ c) (hm : n ≤ 1000) (hl : (lineB (bytesL ts)).length ≤ 100000000) :
    Calls Tryd.prog 65 #[.slice a n c, .string { data := #[32] }] w fun e w' => e = .returned (.string ⟨(lineB (bytesL ts)).toArray⟩) ∧ Below w.heap.size w w' := by
  obtain ⟨b, o, rfl, hcs⟩ := h.at hn
  have hlen := h.len
  have hbk : b < w.heap.size := lt_of_cell (hcs 0 hn)
  have e : bytesL ts = ts.map (·.data.toList) := rfl
  have hj := Any.strings_Join Tryd.lays156 Tryd.Builder_Extra_156 b o c ts ⟨#[32]⟩ w (fun j x hx => by
    have hjl : j < ts.length := by
      rcases Nat.lt_or_ge j ts.length with h | h
      · exact h
      · rw [List.getElem?_eq_none h] at hx; cases hx
    have h1 := hcs j (by omega)
    rw [List.getD_eq_getElem?_getD, hx] at h1
    exact h1) hbk (by omega) (by omega) (by unfold lineB at hl; rw [e] at hl; exact Nat.le_trans hl (by decide))
  rw [hlen] at hj
  unfold lineB
  rw [e]
  exact hj
set_option maxRecDepth 100000 in
set_option maxHeartbeats 1600000 in
theorem line_page (B b : Nat) (l : List UInt8) (a : Option Addr) (n c : Nat) (ts : List Tx) (ps : List (List UInt8)) (w : World) (hp : PageIs B b l w) (hBw : B ≤ w.heap.size) (h : HoldsT w a n ts) (hn : 0 < n) (hc : n ≤ c) (hm : n ≤ 1000)
    (he : bytesL ts = ps) (hl : l.length + (lineB ps).length ≤ 90000000) :
    Calls Tryd.prog 46 #[.pointer (some ⟨b, 0, none⟩), .slice a n c] w fun e w' => e = .returned (.tuple #[]) ∧ PageIs B b (l ++ endB ps) w' ∧ Below B w w' ∧ KeepsT w w' := by
  have CJ := Lib.hid (fun (w' : World) (hb : Below w.heap.size w w') => join_any a n c ts w' (h.below hb) hn hc hm (by rw [he]; omega))
  rw [he] at CJ
  have HP := Lib.hid (fun (w' : World) (hb : Below w.heap.size w w') => hp.below hb)
  obtain ⟨s, hs⟩ : ∃ s : ByteArray, (⟨(lineB ps).toArray⟩ : ByteArray) = s := ⟨_, rfl⟩
  have hsd : s.data.toList = lineB ps := by rw [← hs]
  have hss : s.size = (lineB ps).length := by rw [← hs]; rfl
  rw [hs] at CJ
  have CW := Lib.hid (fun (w' : World) (hb : Below w.heap.size w w') => pwrite_any B b l s w' (hp.below hb) (by omega) (Nat.le_trans hBw hb.size))
  rw [hsd] at CW
  have CE := Lib.hid (fun (w' : World) h hb => pwrite_any B b (l ++ lineB ps) { data := #[10] } w' h (by rw [List.length_append]; show _ + 1 ≤ _; omega) hb)
  have e10 : l ++ lineB ps ++ ({ data := #[10] } : ByteArray).data.toList = l ++ endB ps := by unfold endB; rw [List.append_assoc]
  rw [e10] at CE
  have HBW := Lib.hid hBw
  clear hs hsd hss he hl hp h e10
  go_enter Tryd.func46, Tryd.ntmps46
  go_upto_region 0 with fail
  go_cut [8] from 4 to 9 (fun x wx => x = .string s ∧ PageIs B b (l ++ lineB ps) wx ∧ Below B w wx ∧ KeepsT w wx)
  case first =>
    go_region_with (first | (go_at_call 65; refine (CJ.out _ ((Below.refl _ _).drew)).mono ?_; rintro e w2 ⟨rfl, hb2⟩; have hb2' : Below w.heap.size w w2 := ((Below.refl _ _).drew).trans hb2) | (go_at_call 64; refine (CW.out _ (by assumption)).mono ?_; rintro e w3 ⟨rfl, hp3, hb3, hk3⟩))
    all_goals
      go_wp2_with fail
      go_meet
      exact ⟨rfl, hp3, (hb2'.mono HBW.out).trans hb3, (KeepsT.below hb2').trans hk3⟩
  case rest =>
    obtain ⟨rfl, hp1, hb1, hk1⟩ := hcut
    rename World => w1
    have P1 := Lib.hid hp1
    have B1 := Lib.hid hb1
    have K1 := Lib.hid hk1
    clear hp1 hb1 hk1
    go_wp2_with fail
    refine (CE.out _ P1.out (Nat.le_trans HBW.out B1.out.size)).mono ?_
    rintro e w4 ⟨rfl, hp4, hb4, hk4⟩
    have P4 := Lib.hid hp4
    have B4 := Lib.hid (B1.out.trans hb4)
    have K4 := Lib.hid (K1.out.trans hk4)
    clear hp4 hb4 hk4
    go_wp2_with fail
    go_end0
    exact ⟨rfl, P4.out, B4.out, K4.out⟩
end Go.Proofs.YtmddnklafplikaaDoor
namespace Go.Proofs.YtmddnklafplikaaDoor
open Go.RowKit
set_option linter.unusedVariables false
set_option maxRecDepth 20000
theorem take_getD29 {α : Type} (l : List α) (d : α) (j : Nat) (h : j < l.length) : l.take (j + 1) = l.take j ++ [l.getD j d] := by
  rw [List.take_add_one, List.getD_eq_getElem?_getD, List.getElem?_eq_getElem h]; rfl
theorem in29_any (n lo hi : Int) (w : World) :
    Calls Tryd.prog 60 #[.int .i64 n, .int .i64 lo, .int .i64 hi] w fun e w' => e = .returned (.bool (decide (lo ≤ n ∧ n ≤ hi))) ∧ w = w' := by
  go_enter Tryd.func60, Tryd.ntmps60
  go_wp2
  all_goals (go_ret; exact ⟨ret_bool (by simp; try omega), rfl⟩)
theorem isNumber_any (n : Int) (z : Bool) (w : World) (hz : numQ n = z) :
    Calls Tryd.prog 40 #[.int .i64 n] w fun e w' => e = .returned (.bool z) ∧ w = w' := by
  have C := Lib.hid (in29_any n 0 999999 w)
  rw [show decide (0 ≤ n ∧ n ≤ 999999) = z from hz] at C
  clear hz
  go_enter Tryd.func40, Tryd.ntmps40
  go_wp2_with fail
  refine C.out.mono ?_
  rintro e w2 ⟨rfl, rfl⟩
  go_wp2_with fail
  go_ret
  exact ⟨rfl, rfl⟩
def noNum (n : Int) : Bool := !numQ n
theorem noNum_any (n : Int) (z : Bool) (w : World) (hz : noNum n = z) :
    Calls Tryd.prog 62 #[.int .i64 n] w fun e w' => e = .returned (.bool z) ∧ Below w.heap.size w w' := by
  obtain ⟨y, hy⟩ : ∃ y, numQ n = y := ⟨_, rfl⟩
  have C := Lib.hid (isNumber_any n y w hy)
  have HZ := Lib.hid (show (!y) = z from by rw [← hy]; exact hz)
  clear hz hy
  go_enter Tryd.func62, Tryd.ntmps62
  go_wp2_with fail
  refine C.out.mono ?_
  rintro e w2 ⟨rfl, rfl⟩
  go_wp2_with fail
  go_ret
  exact ⟨by rw [← HZ.out]; rfl, Below.refl _ _⟩
def inumsP (w : World) (xs : List Int) (e : Ending) (w' : World) : Prop := ∃ r : Int, e = .returned (.int .i64 r) ∧ decide (r ≥ 0) = xs.any noNum ∧ Below w.heap.size w w'
set_option maxHeartbeats 1600000 in
theorem inums_any (a : Option Addr) (n cap : Nat) (xs : List Int) (w : World) (hh : HoldsI .i64 w a n xs) (hn : n ≤ 1000000) :
    Calls Tryd.prog 72 #[.slice a n cap, .func (.func 62) #[] #[]] w (inumsP w xs) := by
  have hl := hh.1
  have HH := Lib.hid hh
  clear hh
  go_enter Tryd.func72, Tryd.ntmps72
  go_wp2_with fail
  go_loopw [8] (fun iv wr => ∃ j : Nat, j ≤ n ∧ iv = .int .i64 j ∧ Hid (∀ y ∈ xs.take j, noNum y = false) ∧ Hid (Below w.heap.size w wr)) (fun iv _ => n - (intOf iv).toNat)
  case atStart => exact ⟨0, by omega, rfl, Lib.hid (by simp), Lib.hid (Below.refl _ _)⟩
  case round =>
    obtain ⟨j, hj, rfl, hS, hB⟩ := hrel
    by_cases hlt : j < n
    · obtain ⟨b, o, rfl, hc⟩ := (HH.out.below hB.out).2 (by omega)
      have hx7 := hc j hlt
      obtain ⟨x, hx⟩ : ∃ x, xs.getD j 0 = x := ⟨_, rfl⟩
      have TK := Lib.hid (show xs.take (j + 1) = xs.take j ++ [x] from by rw [← hx]; exact take_getD29 xs 0 j (by omega))
      have MX := Lib.hid (show x ∈ xs from by rw [← hx, List.getD_eq_getElem?_getD, List.getElem?_eq_getElem (by omega)]; exact List.getElem_mem _)
      rw [hx] at hx7
      clear hc hx
      obtain ⟨z, hz⟩ : ∃ z, noNum x = z := ⟨_, rfl⟩
      have HZ := Lib.hid hz
      have i1 : (0 : Int) ≤ (j : Int) := by omega
      have i2 : (j : Int) < (n : Int) := by omega
      have CL := Lib.hid (noNum_any x z wr hz)
      clear hz
      go_wp2_with fail
      refine CL.out.mono ?_
      rintro e w2 ⟨rfl, hb2⟩
      have B2 := Lib.hid (hB.out.trans (hb2.mono hB.out.size))
      clear hb2 CL hx7
      cases z
      · have S2 := Lib.hid (show ∀ y ∈ xs.take (j + 1), noNum y = false from by
          rw [TK.out]; intro y hy
          rcases List.mem_append.1 hy with hy | hy
          · exact hS.out y hy
          · simp only [List.mem_singleton] at hy; rw [hy]; exact HZ.out)
        go_wp2_with fail
        go_roundw
        case rel => exact ⟨j + 1, by omega, by go_num, S2, B2⟩
        case measure => simp [intOf]; omega
      · have AN := Lib.hid (show xs.any noNum = true from List.any_eq_true.2 ⟨x, MX.out, HZ.out⟩)
        go_wp2_with fail
        go_ret
        exact ⟨(j : Int), rfl, by rw [AN.out]; exact decide_eq_true (by omega), B2.out⟩
    · have hjn : xs.take j = xs := List.take_of_length_le (by omega)
      have hS2 := hS.out
      rw [hjn] at hS2
      have AN := Lib.hid (show xs.any noNum = false from by
        rw [List.any_eq_false]; intro y hy; simpa using hS2 y hy)
      clear hjn hS2
      go_wp2_with fail
      go_ret
      exact ⟨-1, rfl, by rw [AN.out]; rfl, hB.out⟩
theorem inumsC_any (a : Option Addr) (n cap : Nat) (xs : List Int) (z : Bool) (w : World) (hh : HoldsI .i64 w a n xs) (hn : n ≤ 1000000) (hz : xs.any noNum = z) :
    Calls Tryd.prog 61 #[.slice a n cap, .func (.func 62) #[] #[]] w fun e w' => e = .returned (.bool z) ∧ Below w.heap.size w w' := by
  have CI := Lib.hid (inums_any a n cap xs w hh hn)
  have HZ := Lib.hid hz
  clear hh hz
  go_enter Tryd.func61, Tryd.ntmps61
  go_wp2_with fail
  refine CI.out.mono ?_
  rintro e w2 ⟨r, rfl, hr, hb⟩
  rw [HZ.out] at hr
  have B2 := Lib.hid hb
  clear hb
  go_wp2_with fail
  go_ret
  exact ⟨rfl, B2.out⟩
theorem any_noNum (ns : List Int) : ns.any noNum = !numsQ ns := by
  unfold numsQ
  induction ns with
  | nil => rfl
  | cons x l ih => rw [List.any_cons, List.all_cons, ih]; unfold noNum; simp
theorem areNumbers_any (a : Option Addr) (n cap : Nat) (xs : List Int) (z : Bool) (w : World) (hh : HoldsI .i64 w a n xs) (hn : n ≤ 1000000) (hz : numsQ xs = z) :
    Calls Tryd.prog 41 #[.slice a n cap] w fun e w' => e = .returned (.bool z) ∧ Below w.heap.size w w' := by
  have C := Lib.hid (inumsC_any a n cap xs (!z) w hh hn (by rw [any_noNum, hz]))
  clear hh hz
  go_enter Tryd.func41, Tryd.ntmps41
  go_wp2_with fail
  refine C.out.mono ?_
  rintro e w2 ⟨rfl, hb⟩
  have B := Lib.hid hb
  clear hb
  go_wp2_with fail
  go_ret
  exact ⟨by simp, B.out⟩
end Go.Proofs.YtmddnklafplikaaDoor
namespace Go.Proofs.YtmddnklafplikaaDoor
open Go.RowKit
set_option linter.unusedVariables false
set_option maxRecDepth 20000
def NewInts (w : World) (n : Nat) (zs : List Int) (e : Ending) (w' : World) : Prop := ∃ p : Nat, e = .returned (.slice (some ⟨p, 0, none⟩) n n) ∧ HoldsI .i64 w' (some ⟨p, 0, none⟩) n zs ∧ Below w.heap.size w w'
theorem holdsI_lit29 (w : World) (zs : List Int) (e : TypeId) (fr : Nat × Nat) : HoldsI .i64 (w.alloc (.cells (zs.map (Value.int .i64)).toArray e fr)) (some ⟨w.heap.size, 0, none⟩) zs.length zs := by
  refine ⟨rfl, fun _ => ⟨_, _, rfl, fun i hi => ?_⟩⟩
  rw [World.cell?_alloc_mark, Nat.zero_add]
  simp [List.getD_eq_getElem?_getD, hi]
set_option maxHeartbeats 1600000 in
theorem settingsOf_any (wa ka : Option Addr) (nw nk wc kc : Nat) (a0 a1 a2 a3 a4 a5 a6 a7 a8 a9 : Int) (w : World) :
    Calls Tryd.prog 42 #[.agg #[.slice wa nw wc, .slice ka nk kc, .int .i64 a0, .int .i64 a1, .int .i64 a2, .int .i64 a3, .int .i64 a4, .int .i64 a5, .int .i64 a6, .int .i64 a7, .int .i64 a8, .int .i64 a9]] w (NewInts w 10 [a0, a1, a2, a3, a4, a5, a6, a7, a8, a9]) := by
  have hs1 : (w.alloc (.cells #[.slice wa nw wc, .slice ka nk kc, .int .i64 a0, .int .i64 a1, .int .i64 a2, .int .i64 a3, .int .i64 a4, .int .i64 a5, .int .i64 a6, .int .i64 a7, .int .i64 a8, .int .i64 a9] 30)).heap.size = w.heap.size + 1 := by simp
  have HH := holdsI_lit29 (w.alloc (.cells #[.slice wa nw wc, .slice ka nk kc, .int .i64 a0, .int .i64 a1, .int .i64 a2, .int .i64 a3, .int .i64 a4, .int .i64 a5, .int .i64 a6, .int .i64 a7, .int .i64 a8, .int .i64 a9] 30)) [a0, a1, a2, a3, a4, a5, a6, a7, a8, a9] 3 (0, 0)
  rw [hs1] at HH
  have HD := Lib.hid HH
  clear HH hs1
  go_enter Tryd.func42, Tryd.ntmps42
  go_wp2_with fail
  go_ret
  exact ⟨w.heap.size + 1, rfl, HD.out, (below_one w _).trans ((below_one _ _).mono (by simp))⟩
set_option maxHeartbeats 1600000 in
theorem numbersOf_any (x : EvP) (w : World) : Calls Tryd.prog 49 #[.agg #[.int .i64 x.kd, .int .i64 x.nd, .int .i64 x.pl, .int .i64 x.x, .string x.text, .int .i64 x.k, .int .i64 x.n]] w (NewInts w 4 (nosEv x)) := by
  obtain ⟨kd, nd, pl, ex, t, k, n⟩ := x
  have hs1 : (w.alloc (.cells #[.int .i64 kd, .int .i64 nd, .int .i64 pl, .int .i64 ex, .string t, .int .i64 k, .int .i64 n] 50)).heap.size = w.heap.size + 1 := by simp
  have HH := holdsI_lit29 (w.alloc (.cells #[.int .i64 kd, .int .i64 nd, .int .i64 pl, .int .i64 ex, .string t, .int .i64 k, .int .i64 n] 50)) [kd, nd, pl, ex] 3 (0, 0)
  rw [hs1] at HH
  have HD := Lib.hid HH
  clear HH hs1
  go_enter Tryd.func49, Tryd.ntmps49
  go_wp2_with fail
  go_ret
  exact ⟨w.heap.size + 1, rfl, HD.out, (below_one w _).trans ((below_one _ _).mono (by simp))⟩
set_option maxHeartbeats 1600000 in
theorem mayPrint_any (x : EvP) (z : Bool) (w : World) (hz : mayEv x = z) : Calls Tryd.prog 45 #[.agg #[.int .i64 x.kd, .int .i64 x.nd, .int .i64 x.pl, .int .i64 x.x, .string x.text, .int .i64 x.k, .int .i64 x.n]] w fun e w' => e = .returned (.bool z) ∧ Below w.heap.size w w' := by
  have CN := Lib.hid (fun w => numbersOf_any x w)
  obtain ⟨zn, hzn⟩ : ∃ z, numsQ (nosEv x) = z := ⟨_, rfl⟩
  have CA := Lib.hid (fun p w h => areNumbers_any (some ⟨p, 0, none⟩) 4 4 (nosEv x) zn w h (by omega) hzn)
  obtain ⟨kd, nd, pl, ex, t, k, n⟩ := x
  unfold mayEv at hz
  simp only [] at hz
  rw [hzn] at hz
  clear hzn
  obtain ⟨zk, hzk⟩ : ∃ z, numQ k = z := ⟨_, rfl⟩
  obtain ⟨zm, hzm⟩ : ∃ z, numQ n = z := ⟨_, rfl⟩
  have CK := Lib.hid (fun w => isNumber_any k zk w hzk)
  have CM := Lib.hid (fun w => isNumber_any n zm w hzm)
  rw [hzk, hzm] at hz
  clear hzk hzm
  have BX := Lib.hid (below_one w (.cells #[.int .i64 kd, .int .i64 nd, .int .i64 pl, .int .i64 ex, .string t, .int .i64 k, .int .i64 n] 50))
  by_cases h1 : kd = 1
  · subst h1
    rw [if_pos rfl] at hz
    by_cases hnd : nd = 0
    case neg =>
      have g1 : (nd == 0) = false := by simpa using hnd
      have g2 : decide (nd = 0) = false := decide_eq_false hnd
      have HZ := Lib.hid (show z = false from by rw [← hz, decide_eq_false (fun h => hnd h.1)]; rfl)
      clear hnd hz
      go_enter Tryd.func45, Tryd.ntmps45
      go_wp2_with fail
      go_ret
      exact ⟨by rw [HZ.out]; rfl, BX.out⟩
    subst hnd
    by_cases hpl : pl = 0
    case neg =>
      have g1 : (pl == 0) = false := by simpa using hpl
      have g2 : decide (pl = 0) = false := decide_eq_false hpl
      have HZ := Lib.hid (show z = false from by rw [← hz, decide_eq_false (fun h => hpl h.2.1)]; rfl)
      clear hpl hz
      go_enter Tryd.func45, Tryd.ntmps45
      go_wp2_with fail
      go_ret
      exact ⟨by rw [HZ.out]; rfl, BX.out⟩
    subst hpl
    by_cases hex : ex = 0
    case neg =>
      have g1 : (ex == 0) = false := by simpa using hex
      have g2 : decide (ex = 0) = false := decide_eq_false hex
      have HZ := Lib.hid (show z = false from by rw [← hz, decide_eq_false (fun h => hex h.2.2)]; rfl)
      clear hex hz
      go_enter Tryd.func45, Tryd.ntmps45
      go_wp2_with fail
      go_ret
      exact ⟨by rw [HZ.out]; rfl, BX.out⟩
    subst hex
    have HZ := Lib.hid (show z = (zk && zm) from by rw [← hz, decide_eq_true ⟨rfl, rfl, rfl⟩]; rfl)
    clear hz
    go_enter Tryd.func45, Tryd.ntmps45
    go_wp2_with fail
    refine (CK.out _).mono ?_
    rintro e w2 ⟨rfl, rfl⟩
    cases zk with
    | false =>
      go_wp2_with fail
      go_ret
      exact ⟨by rw [HZ.out]; rfl, BX.out⟩
    | true =>
      go_wp2_with fail
      refine (CM.out _).mono ?_
      rintro e w3 ⟨rfl, rfl⟩
      go_wp2_with fail
      go_ret
      exact ⟨by rw [HZ.out]; simp, BX.out⟩
  rw [if_neg h1] at hz
  have d1 : (kd == 1) = false := by simpa using h1
  have d2 : decide (kd = 1) = false := decide_eq_false h1
  clear h1
  obtain ⟨b1, hb1⟩ : ∃ y, (t.toList == []) = y := ⟨_, rfl⟩
  obtain ⟨b2, hb2⟩ : ∃ y, (k == 0) = y := ⟨_, rfl⟩
  obtain ⟨b3, hb3⟩ : ∃ y, (n == 0) = y := ⟨_, rfl⟩
  have hy : decide (t = ⟨#[]⟩ ∧ k = 0 ∧ n = 0) = (b1 && (b2 && b3)) := by
    rw [Bool.eq_iff_iff, decide_eq_true_eq, ← hb1, ← hb2, ← hb3]
    simp only [Bool.and_eq_true, beq_iff_eq]
    have e0 : (⟨#[]⟩ : ByteArray).toList = [] := by show ByteArray.empty.toList = []; simp
    constructor
    · rintro ⟨h1, h2, h3⟩; exact ⟨by rw [h1, e0], h2, h3⟩
    · rintro ⟨h1, h2, h3⟩; exact ⟨toList_inj (h1.trans e0.symm), h2, h3⟩
  rw [hy] at hz
  clear hy
  have HZ := Lib.hid hz
  clear hz
  by_cases hall : b1 = true ∧ b2 = true ∧ b3 = true
  · obtain ⟨rfl, rfl, rfl⟩ := hall
    have y2 : decide (k = 0) = true := decide_eq_true (by simpa using hb2)
    have y3 : decide (n = 0) = true := decide_eq_true (by simpa using hb3)
    go_enter Tryd.func45, Tryd.ntmps45
    go_wp2_with fail
    refine (CN.out _).mono ?_
    rintro e w2 ⟨p, rfl, hh, hb⟩
    have B2 := Lib.hid (BX.out.trans (hb.mono BX.out.size))
    have CA2 := Lib.hid (CA.out p w2 hh)
    clear hh hb
    go_wp2_with fail
    refine CA2.out.mono ?_
    rintro e w3 ⟨rfl, hb3⟩
    have B3 := Lib.hid (B2.out.trans (hb3.mono B2.out.size))
    clear hb3
    go_wp2_with fail
    go_ret
    exact ⟨by rw [← HZ.out]; simp, B3.out⟩
  · have HN := Lib.hid (show z = false from by rw [← HZ.out]; cases b1 <;> cases b2 <;> cases b3 <;> first | rfl | exact absurd ⟨rfl, rfl, rfl⟩ hall)
    cases b1 <;> cases b2 <;> cases b3
    all_goals try (exact absurd ⟨rfl, rfl, rfl⟩ hall)
    all_goals
      clear hall
      go_enter Tryd.func45, Tryd.ntmps45
      go_wp2_with fail
    all_goals
      go_ret
      exact ⟨by rw [HN.out]; rfl, BX.out⟩
end Go.Proofs.YtmddnklafplikaaDoor
namespace Go.Proofs.YtmddnklafplikaaDoor
open Go.RowKit
set_option linter.unusedVariables false
set_option maxRecDepth 20000
def noEv (x : EvP) : Bool := !mayEv x
set_option maxHeartbeats 1600000 in
theorem noEv_any (x : EvP) (z : Bool) (w : World) (hz : noEv x = z) :
    Calls Tryd.prog 44 #[.agg #[.int .i64 x.kd, .int .i64 x.nd, .int .i64 x.pl, .int .i64 x.x, .string x.text, .int .i64 x.k, .int .i64 x.n]] w fun e w' => e = .returned (.bool z) ∧ Below w.heap.size w w' := by
  obtain ⟨y, hy⟩ : ∃ y, mayEv x = y := ⟨_, rfl⟩
  have C := Lib.hid (fun w => mayPrint_any x y w hy)
  have HZ := Lib.hid (show (!y) = z from by rw [← hy]; exact hz)
  clear hz hy
  have BX := Lib.hid (below_one w (.cells #[.int .i64 x.kd, .int .i64 x.nd, .int .i64 x.pl, .int .i64 x.x, .string x.text, .int .i64 x.k, .int .i64 x.n] 50))
  go_enter Tryd.func44, Tryd.ntmps44
  go_wp2_with fail
  refine (C.out _).mono ?_
  rintro e w2 ⟨rfl, hb⟩
  have B2 := Lib.hid (BX.out.trans (hb.mono BX.out.size))
  clear hb
  go_wp2_with fail
  go_ret
  exact ⟨by rw [← HZ.out]; rfl, B2.out⟩
def ievsP (w : World) (xs : List EvP) (e : Ending) (w' : World) : Prop := ∃ r : Int, e = .returned (.int .i64 r) ∧ decide (r ≥ 0) = xs.any noEv ∧ Below w.heap.size w w'
set_option maxHeartbeats 1600000 in
theorem ievs_any (a : Option Addr) (n cap : Nat) (xs : List EvP) (w : World) (hh : HoldsEv w a n xs) (hn : n ≤ 1000000) :
    Calls Tryd.prog 63 #[.slice a n cap, .func (.func 44) #[] #[]] w (ievsP w xs) := by
  have hl := hh.1
  have HH := Lib.hid hh
  clear hh
  go_enter Tryd.func63, Tryd.ntmps63
  go_wp2_with fail
  go_loopw [8] (fun iv wr => ∃ j : Nat, j ≤ n ∧ iv = .int .i64 j ∧ Hid (∀ y ∈ xs.take j, noEv y = false) ∧ Hid (Below w.heap.size w wr)) (fun iv _ => n - (intOf iv).toNat)
  case atStart => exact ⟨0, by omega, rfl, Lib.hid (by simp), Lib.hid (Below.refl _ _)⟩
  case round =>
    obtain ⟨j, hj, rfl, hS, hB⟩ := hrel
    by_cases hlt : j < n
    · obtain ⟨b, o, rfl, hc⟩ := (HH.out.below hB.out).2 (by omega)
      have hx7 := hc j hlt
      obtain ⟨x, hx⟩ : ∃ x, xs.getD j ev0 = x := ⟨_, rfl⟩
      have TK := Lib.hid (show xs.take (j + 1) = xs.take j ++ [x] from by rw [← hx]; exact take_getD29 xs ev0 j (by omega))
      have MX := Lib.hid (show x ∈ xs from by rw [← hx, List.getD_eq_getElem?_getD, List.getElem?_eq_getElem (by omega)]; exact List.getElem_mem _)
      rw [hx] at hx7
      obtain ⟨c0, c1, c2, c3, c4, c5, c6⟩ := hx7
      clear hc hx
      obtain ⟨z, hz⟩ : ∃ z, noEv x = z := ⟨_, rfl⟩
      have HZ := Lib.hid hz
      have i1 : (0 : Int) ≤ (j : Int) := by omega
      have i2 : (j : Int) < (n : Int) := by omega
      have CL := Lib.hid (noEv_any x z wr hz)
      clear hz
      go_wp2_with fail
      refine CL.out.mono ?_
      rintro e w2 ⟨rfl, hb2⟩
      have B2 := Lib.hid (hB.out.trans (hb2.mono hB.out.size))
      clear hb2 CL c0 c1 c2 c3 c4 c5 c6
      cases z
      · have S2 := Lib.hid (show ∀ y ∈ xs.take (j + 1), noEv y = false from by
          rw [TK.out]; intro y hy
          rcases List.mem_append.1 hy with hy | hy
          · exact hS.out y hy
          · simp only [List.mem_singleton] at hy; rw [hy]; exact HZ.out)
        go_wp2_with fail
        go_roundw
        case rel => exact ⟨j + 1, by omega, by go_num, S2, B2⟩
        case measure => simp [intOf]; omega
      · have AN := Lib.hid (show xs.any noEv = true from List.any_eq_true.2 ⟨x, MX.out, HZ.out⟩)
        go_wp2_with fail
        go_ret
        exact ⟨(j : Int), rfl, by rw [AN.out]; exact decide_eq_true (by omega), B2.out⟩
    · have hjn : xs.take j = xs := List.take_of_length_le (by omega)
      have hS2 := hS.out
      rw [hjn] at hS2
      have AN := Lib.hid (show xs.any noEv = false from by
        rw [List.any_eq_false]; intro y hy; simpa using hS2 y hy)
      clear hjn hS2
      go_wp2_with fail
      go_ret
      exact ⟨-1, rfl, by rw [AN.out]; rfl, hB.out⟩
theorem ievsC_any (a : Option Addr) (n cap : Nat) (xs : List EvP) (z : Bool) (w : World) (hh : HoldsEv w a n xs) (hn : n ≤ 1000000) (hz : xs.any noEv = z) :
    Calls Tryd.prog 43 #[.slice a n cap, .func (.func 44) #[] #[]] w fun e w' => e = .returned (.bool z) ∧ Below w.heap.size w w' := by
  have CI := Lib.hid (ievs_any a n cap xs w hh hn)
  have HZ := Lib.hid hz
  clear hh hz
  go_enter Tryd.func43, Tryd.ntmps43
  go_wp2_with fail
  refine CI.out.mono ?_
  rintro e w2 ⟨r, rfl, hr, hb⟩
  rw [HZ.out] at hr
  have B2 := Lib.hid hb
  clear hb
  go_wp2_with fail
  go_ret
  exact ⟨rfl, B2.out⟩
theorem any_noEv (es : List EvP) : es.any noEv = !es.all mayEv := by
  induction es with
  | nil => rfl
  | cons x l ih => rw [List.any_cons, List.all_cons, ih]; unfold noEv; simp
def cutsQ (ks : List KV) : Bool := ks.all (fun k => numQ k.1)
theorem cutsQ_no {ks : List KV} {j : Nat} (h : j < ks.length) (hz : numQ (ks.getD j k0).1 = false) : cutsQ ks = false := by
  unfold cutsQ
  rw [List.all_eq_false]
  refine ⟨ks.getD j k0, ?_, by simpa using hz⟩
  rw [List.getD_eq_getElem?_getD, List.getElem?_eq_getElem h]
  exact List.getElem_mem _
set_option maxRecDepth 100000 in
set_option maxHeartbeats 1600000 in
theorem printable_any (wa ka ea : Option Addr) (nw nk ne wc kc ec : Nat) (a0 a1 a2 a3 a4 a5 a6 a7 a8 a9 : Int) (ks : List KV) (es : List EvP) (z : Bool) (w : World)
    (hk : HoldsK w ka nk ks) (he : HoldsEv w ea ne es) (hnk : nk ≤ 1000000) (hne : ne ≤ 1000000) (hz : (cutsQ ks && (numsQ [a0, a1, a2, a3, a4, a5, a6, a7, a8, a9] && es.all mayEv)) = z) :
    Calls Tryd.prog 28 #[.agg #[.slice wa nw wc, .slice ka nk kc, .int .i64 a0, .int .i64 a1, .int .i64 a2, .int .i64 a3, .int .i64 a4, .int .i64 a5, .int .i64 a6, .int .i64 a7, .int .i64 a8, .int .i64 a9], .slice ea ne ec] w fun e w' => e = .returned (.bool z) ∧ Below w.heap.size w w' := by
  have hkl := hk.1
  have BX := Lib.hid (below_one w (.cells #[.slice wa nw wc, .slice ka nk kc, .int .i64 a0, .int .i64 a1, .int .i64 a2, .int .i64 a3, .int .i64 a4, .int .i64 a5, .int .i64 a6, .int .i64 a7, .int .i64 a8, .int .i64 a9] 30))
  have CB := Lib.hid (show (w.alloc (.cells #[.slice wa nw wc, .slice ka nk kc, .int .i64 a0, .int .i64 a1, .int .i64 a2, .int .i64 a3, .int .i64 a4, .int .i64 a5, .int .i64 a6, .int .i64 a7, .int .i64 a8, .int .i64 a9] 30)).heap[w.heap.size]? = some (.cells #[.slice wa nw wc, .slice ka nk kc, .int .i64 a0, .int .i64 a1, .int .i64 a2, .int .i64 a3, .int .i64 a4, .int .i64 a5, .int .i64 a6, .int .i64 a7, .int .i64 a8, .int .i64 a9] 30 (0, 0)) from heap_alloc_new w _)
  obtain ⟨q, hq⟩ : ∃ q, w.heap.size = q := ⟨_, rfl⟩
  have HK := Lib.hid (fun (w' : World) (hb : Below w.heap.size w w') => hk.below hb)
  have HE := Lib.hid (fun (w' : World) (hb : Below w.heap.size w w') => he.below hb)
  obtain ⟨zn, hzn⟩ : ∃ y, numsQ [a0, a1, a2, a3, a4, a5, a6, a7, a8, a9] = y := ⟨_, rfl⟩
  obtain ⟨ze, hze⟩ : ∃ y, es.all mayEv = y := ⟨_, rfl⟩
  rw [hzn, hze] at hz
  have CS := Lib.hid (fun w => settingsOf_any wa ka nw nk wc kc a0 a1 a2 a3 a4 a5 a6 a7 a8 a9 w)
  have CA := Lib.hid (fun p w h => areNumbers_any (some ⟨p, 0, none⟩) 10 10 _ zn w h (by omega) hzn)
  have CE := Lib.hid (fun w h => ievsC_any ea ne ec es (!ze) w h hne (by rw [any_noEv, hze]))
  have CN := Lib.hid (fun n y w h => isNumber_any n y w h)
  have HZ := Lib.hid hz
  clear hk he hzn hze hz
  go_enter Tryd.func28, Tryd.ntmps28
  go_upto_region 1 with fail
  rw [hq] at CB
  try rw [hq]
  clear hq
  generalize w.alloc (.cells #[.slice wa nw wc, .slice ka nk kc, .int .i64 a0, .int .i64 a1, .int .i64 a2, .int .i64 a3, .int .i64 a4, .int .i64 a5, .int .i64 a6, .int .i64 a7, .int .i64 a8, .int .i64 a9] 30) = w1 at *
  have c1 : w1.cell? ⟨q, 1, none⟩ = some (.slice ka nk kc) := by rw [Lib.cell_of_heap CB.out]; rfl
  go_wp2_with fail
  have HQ1 := Lib.hid (show q < w1.heap.size from by have h := CB.out; rw [Array.getElem?_eq_some_iff] at h; exact h.1)
  go_loopw [10] (fun iv wr => ∃ j : Nat, j ≤ nk ∧ iv = .int .i64 j ∧ Hid (cutsQ (ks.take j) = true) ∧ Hid (Below w1.heap.size w1 wr)) (fun iv _ => nk - (intOf iv).toNat)
  case atStart => exact ⟨0, by omega, rfl, Lib.hid rfl, Lib.hid (Below.refl _ _)⟩
  case round =>
    obtain ⟨j, hj, rfl, hS, hB⟩ := hrel
    have B1 := Lib.hid (BX.out.trans (hB.out.mono BX.out.size))
    by_cases hlt : j < nk
    · obtain ⟨b, o, rfl, hc⟩ := (HK.out wr B1.out).2 (by omega)
      obtain ⟨x0, x1⟩ := hc j hlt
      obtain ⟨x, hx⟩ : ∃ x, (ks.getD j k0).1 = x := ⟨_, rfl⟩
      obtain ⟨t, ht⟩ : ∃ x, (ks.getD j k0).2 = x := ⟨_, rfl⟩
      rw [hx] at x0
      rw [ht] at x1
      obtain ⟨y, hy⟩ : ∃ y, numQ x = y := ⟨_, rfl⟩
      have CN2 := Lib.hid (fun w => CN.out x y w hy)
      have i1 : (0 : Int) ≤ (j : Int) := by omega
      have i2 : (j : Int) < (nk : Int) := by omega
      have HX := Lib.hid hx
      have HY := Lib.hid hy
      clear hc hx ht hy CN
      go_wp2_with fail
      refine (CN2.out _).mono ?_
      rintro e w2 ⟨rfl, rfl⟩
      have B2 := Lib.hid (hB.out.alloc hB.out.size (.cells #[.int .i64 x, .string t] 65))
      cases y with
      | true =>
        have S2 := Lib.hid (show cutsQ (ks.take (j + 1)) = true from by
          have h := hS.out
          unfold cutsQ at h ⊢
          rw [take_getD29 ks k0 j (by omega), List.all_append, h, Bool.true_and, List.all_cons, List.all_nil, HX.out, HY.out]; rfl)
        go_wp2_with fail
        go_roundw
        case rel => exact ⟨j + 1, by omega, by go_num, S2, B2⟩
        case measure => simp [intOf]; omega
      | false =>
        have S2 := Lib.hid (show z = false from by rw [← HZ.out, cutsQ_no (j := j) (by omega) (by rw [HX.out]; exact HY.out)]; rfl)
        go_wp2_with fail
        go_ret
        exact ⟨by rw [S2.out]; rfl, BX.out.trans (B2.out.mono BX.out.size)⟩
    · obtain rfl : nk = j := by omega
      have hcq : cutsQ ks = true := by have h := hS.out; rw [List.take_of_length_le (by omega)] at h; exact h
      rw [hcq] at HZ
      have KQ := Lib.hid (show wr.heap[q]? = some (.cells #[.slice wa nw wc, .slice ka nk kc, .int .i64 a0, .int .i64 a1, .int .i64 a2, .int .i64 a3, .int .i64 a4, .int .i64 a5, .int .i64 a6, .int .i64 a7, .int .i64 a8, .int .i64 a9] 30 (0, 0)) from by rw [hB.out.block q HQ1.out]; exact CB.out)
      have e0 : wr.cell? ⟨q, 0, none⟩ = some (.slice wa nw wc) := by rw [Lib.cell_of_heap KQ.out]; rfl
      have e1 : wr.cell? ⟨q, 1, none⟩ = some (.slice ka nk kc) := by rw [Lib.cell_of_heap KQ.out]; rfl
      have e2 : wr.cell? ⟨q, 2, none⟩ = some (.int .i64 a0) := by rw [Lib.cell_of_heap KQ.out]; rfl
      have e3 : wr.cell? ⟨q, 3, none⟩ = some (.int .i64 a1) := by rw [Lib.cell_of_heap KQ.out]; rfl
      have e4 : wr.cell? ⟨q, 4, none⟩ = some (.int .i64 a2) := by rw [Lib.cell_of_heap KQ.out]; rfl
      have e5 : wr.cell? ⟨q, 5, none⟩ = some (.int .i64 a3) := by rw [Lib.cell_of_heap KQ.out]; rfl
      have e6 : wr.cell? ⟨q, 6, none⟩ = some (.int .i64 a4) := by rw [Lib.cell_of_heap KQ.out]; rfl
      have e7 : wr.cell? ⟨q, 7, none⟩ = some (.int .i64 a5) := by rw [Lib.cell_of_heap KQ.out]; rfl
      have e8 : wr.cell? ⟨q, 8, none⟩ = some (.int .i64 a6) := by rw [Lib.cell_of_heap KQ.out]; rfl
      have e9 : wr.cell? ⟨q, 9, none⟩ = some (.int .i64 a7) := by rw [Lib.cell_of_heap KQ.out]; rfl
      have e10 : wr.cell? ⟨q, 10, none⟩ = some (.int .i64 a8) := by rw [Lib.cell_of_heap KQ.out]; rfl
      have e11 : wr.cell? ⟨q, 11, none⟩ = some (.int .i64 a9) := by rw [Lib.cell_of_heap KQ.out]; rfl
      clear hcq CB
      go_wp2_with fail
      refine (CS.out _).mono ?_
      rintro e w3 ⟨p, rfl, hh, hb3⟩
      have B3 := Lib.hid (B1.out.trans (hb3.mono B1.out.size))
      have CA2 := Lib.hid (CA.out p w3 hh)
      clear hh hb3
      go_wp2_with fail
      refine CA2.out.mono ?_
      rintro e w4 ⟨rfl, hb4⟩
      have B4 := Lib.hid (B3.out.trans (hb4.mono B3.out.size))
      clear hb4
      cases zn with
      | false =>
        go_wp2_with fail
        go_ret
        exact ⟨by rw [← HZ.out]; rfl, B4.out⟩
      | true =>
        have CE2 := Lib.hid (CE.out w4 (HE.out w4 B4.out))
        go_wp2_with fail
        refine CE2.out.mono ?_
        rintro e w5 ⟨rfl, hb5⟩
        have B5 := Lib.hid (B4.out.trans (hb5.mono B4.out.size))
        clear hb5
        go_wp2_with fail
        go_ret
        exact ⟨by rw [← HZ.out]; simp, B5.out⟩
end Go.Proofs.YtmddnklafplikaaDoor
namespace Go.Proofs.YtmddnklafplikaaDoor
open Go.Shelf Go.RowKit
set_option linter.unusedVariables false
set_option maxRecDepth 20000
def Tryd.lays171_ren : Go.Shelf.Ren := ⟨fun | 171 => 47 | 243 => 66 | 246 => 74 | 283 => 80 | 284 => 81 | 285 => 82 | 286 => 83 | 129 => 90 | 317 => 89 | 318 => 91 | 319 => 92 | 320 => 93 | 337 => 98 | 338 => 99 | n => n, fun | 3 => 3 | 9 => 9 | 2 => 2 | 4 => 4 | 171 => 114 | 0 => 0 | 53 => 115 | 37 => 52 | 5 => 5 | 173 => 118 | 212 => 126 | 51 => 127 | 20 => 20 | 213 => 128 | 46 => 59 | 232 => 137 | 233 => 138 | n => n, fun | 17 => 1 | 18 => 4 | 19 => 5 | n => n⟩
theorem Tryd.lays171 : Go.Proofs.LaysM.n171 Tryd.prog Tryd.lays171_ren := {
  mixed := by kernel_rfl
  f129 := Tryd.func90.trans (congrArg some (by kernel_rfl))
  f171 := Tryd.func47.trans (congrArg some (by kernel_rfl))
  f243 := Tryd.func66.trans (congrArg some (by kernel_rfl))
  f246 := Tryd.func74.trans (congrArg some (by kernel_rfl))
  f283 := Tryd.func80.trans (congrArg some (by kernel_rfl))
  f284 := Tryd.func81.trans (congrArg some (by kernel_rfl))
  f285 := Tryd.func82.trans (congrArg some (by kernel_rfl))
  f286 := Tryd.func83.trans (congrArg some (by kernel_rfl))
  f317 := Tryd.func89.trans (congrArg some (by kernel_rfl))
  f318 := Tryd.func91.trans (congrArg some (by kernel_rfl))
  f319 := Tryd.func92.trans (congrArg some (by kernel_rfl))
  f320 := Tryd.func93.trans (congrArg some (by kernel_rfl))
  f337 := Tryd.func98.trans (congrArg some (by kernel_rfl))
  f338 := Tryd.func99.trans (congrArg some (by kernel_rfl))
  t0 := Tryd.underlying0
  a0 := Tryd.isAgg0
  z0 := Tryd.sizeOf0
  v0 := Tryd.zeroValue0
  t2 := Tryd.underlying2
  a2 := Tryd.isAgg2
  z2 := Tryd.sizeOf2
  v2 := Tryd.zeroValue2
  t3 := Tryd.underlying3
  a3 := Tryd.isAgg3
  z3 := Tryd.sizeOf3
  v3 := Tryd.zeroValue3
  t4 := Tryd.underlying4
  a4 := Tryd.isAgg4
  z4 := Tryd.sizeOf4
  v4 := Tryd.zeroValue4
  t5 := Tryd.underlying5
  a5 := Tryd.isAgg5
  z5 := Tryd.sizeOf5
  v5 := Tryd.zeroValue5
  t9 := Tryd.underlying9
  a9 := Tryd.isAgg9
  z9 := Tryd.sizeOf9
  v9 := Tryd.zeroValue9
  t20 := Tryd.underlying20
  a20 := Tryd.isAgg20
  z20 := Tryd.sizeOf20
  v20 := Tryd.zeroValue20
  t37 := Tryd.underlying52
  a37 := Tryd.isAgg52
  z37 := Tryd.sizeOf52
  v37 := Tryd.zeroValue52
  t46 := Tryd.underlying59
  a46 := Tryd.isAgg59
  z46 := Tryd.sizeOf59
  v46 := Tryd.zeroValue59
  t51 := Tryd.underlying127
  a51 := Tryd.isAgg127
  z51 := Tryd.sizeOf127
  v51 := Tryd.zeroValue127
  t53 := Tryd.underlying115
  a53 := Tryd.isAgg115
  z53 := Tryd.sizeOf115
  v53 := Tryd.zeroValue115
  t171 := Tryd.underlying114
  a171 := Tryd.isAgg114
  z171 := Tryd.sizeOf114
  v171 := Tryd.zeroValue114
  t173 := Tryd.underlying118
  a173 := Tryd.isAgg118
  z173 := Tryd.sizeOf118
  v173 := Tryd.zeroValue118
  t212 := Tryd.underlying126
  a212 := Tryd.isAgg126
  z212 := Tryd.sizeOf126
  v212 := Tryd.zeroValue126
  t213 := Tryd.underlying128
  a213 := Tryd.isAgg128
  z213 := Tryd.sizeOf128
  t232 := Tryd.underlying137
  a232 := Tryd.isAgg137
  z232 := Tryd.sizeOf137
  v232 := Tryd.zeroValue137
  t233 := Tryd.underlying138
  a233 := Tryd.isAgg138
  z233 := Tryd.sizeOf138
  v233 := Tryd.zeroValue138
  g17 := by kernel_rfl
  g18 := by kernel_rfl
  g19 := by kernel_rfl
  i0 := by kernel_rfl
  i2 := by kernel_rfl
  i3 := by kernel_rfl
  i4 := by kernel_rfl
  i5 := by kernel_rfl
  i9 := by kernel_rfl
  i20 := by kernel_rfl
  i37 := by kernel_rfl
  i46 := by kernel_rfl
  i51 := by kernel_rfl
  i53 := by kernel_rfl
  i171 := by kernel_rfl
  i173 := by kernel_rfl
  i212 := by kernel_rfl
  i232 := by kernel_rfl
  i233 := by kernel_rfl
  m17 := by kernel_rfl
  m18 := by kernel_rfl
  m19 := by kernel_rfl }
def Tab10 (w : World) : Prop := Lib.TabIs Tryd.prog w "internal/strconv.uint64pow10" .u64 Lib.pow10Tab
theorem Tab10.below {w w' : World} {B : Nat} (h : Tab10 w) (hb : Below B w w') (hB : w.heap.size ≤ B) : Tab10 w' := by
  unfold Tab10 Lib.TabIs World.var? at *
  cases hg : Tryd.prog.globalNamed "internal/strconv.uint64pow10" with
  | none => rw [hg] at h; cases h
  | some g =>
    rw [hg] at h
    simp only [Option.bind_some] at h ⊢
    have hlt : g < w.heap.size := by
      rcases Nat.lt_or_ge g w.heap.size with h' | h'
      · exact h'
      · rw [Array.getElem?_eq_none h'] at h; cases h
    rw [hb.block g (Nat.lt_of_lt_of_le hlt hB)]
    exact h
theorem itoa29_any (n : Int) (w : World) (hn : numQ n = true) (ht : Tab10 w) :
    Calls Tryd.prog 47 #[.int .i64 n] w fun e w' => e = .returned (.string ⟨(decI n).toArray⟩) ∧ Below w.heap.size w w' := by
  have h2 : 0 ≤ n ∧ n ≤ 999999 := of_decide_eq_true hn
  refine (Any.strconv_Itoa Tryd.lays171 n (by omega) (by omega) w ht).mono ?_
  rintro e w' ⟨rfl, k, os, rfl⟩
  have hi : Lib.itoa n = decI n := by unfold Lib.itoa decI; rw [if_neg (by omega)]
  rw [hi]
  exact ⟨rfl, rfl, rfl, rfl, by show w.heap.size ≤ (w.heap ++ os).size; rw [Array.size_append]; omega, fun k hk => by show (w.heap ++ os)[k]? = w.heap[k]?; rw [Array.getElem?_append_left hk]⟩
def DecP (w : World) (zs : List Int) (e : Ending) (w' : World) : Prop := ∃ (a : Option Addr) (n c : Nat) (ts : List Tx), e = .returned (.slice a n c) ∧ w'.ownsRow w.heap.size 9 1 (.slice a n c) n (strsV ts) ∧ n = zs.length ∧ bytesL ts = zs.map decI ∧ Below w.heap.size w w'
set_option maxRecDepth 100000 in
set_option maxHeartbeats 1600000 in
theorem decimal_any (a : Option Addr) (n c : Nat) (zs : List Int) (w : World) (h : HoldsI .i64 w a n zs) (hn : n ≤ 1000) (hq : numsQ zs = true) (ht : Tab10 w) :
    Calls Tryd.prog 48 #[.slice a n c] w (DecP w zs) := by
  obtain ⟨i0, hii, hz0, hz1, hz2⟩ := info_parts hi9
  have hzl := h.len
  have HH := Lib.hid (fun (w' : World) (hb : Below w.heap.size w w') => h.below hb)
  have HT := Lib.hid (fun (w' : World) (hb : Below w.heap.size w w') => ht.below hb (Nat.le_refl _))
  have HQ := Lib.hid (show ∀ i, i < n → numQ (zs.getD i 0) = true from fun i hi => by
    have h1 := List.all_eq_true.1 hq (zs.getD i 0) (by rw [List.getD_eq_getElem?_getD, List.getElem?_eq_getElem (by omega)]; exact List.getElem_mem _)
    exact h1)
  have O0 := Lib.hid (show w.ownsRow w.heap.size 9 1 (.slice none 0 0) 0 (strsV []) from ⟨rfl, Or.inl ⟨rfl, rfl⟩⟩)
  clear h hq ht
  go_enter Tryd.func48, Tryd.ntmps48
  go_wp2_with fail
  go_loopw [3, 8] (fun ov iv wr => ∃ (j : Nat) (av : Option Addr) (cv : Nat) (ts : List Tx), j ≤ n ∧ iv = .int .i64 j ∧ ov = .slice av j cv ∧ Hid (bytesL ts = (zs.take j).map decI) ∧ Hid (wr.ownsRow w.heap.size 9 1 (.slice av j cv) j (strsV ts)) ∧ Hid (Below w.heap.size w wr)) (fun _ iv _ => n - (intOf iv).toNat)
  case atStart => exact ⟨0, none, 0, [], by omega, rfl, rfl, Lib.hid rfl, O0, Lib.hid (Below.refl _ _)⟩
  case round =>
    clear O0
    obtain ⟨j, av, cv, ts, hj, rfl, rfl, hS, hO, hB⟩ := hrel
    by_cases hlt : j < n
    · obtain ⟨b, o, rfl, hc⟩ := (HH.out wr hB.out).2 (by omega)
      have hx := hc j hlt
      obtain ⟨x, hx2⟩ : ∃ x, zs.getD j 0 = x := ⟨_, rfl⟩
      rw [hx2] at hx
      have CI := Lib.hid (fun (w' : World) (hb : Below w.heap.size w w') => itoa29_any x w' (by rw [← hx2]; exact HQ.out j hlt) (HT.out w' hb))
      obtain ⟨s, hs⟩ : ∃ s : ByteArray, (⟨(decI x).toArray⟩ : ByteArray) = s := ⟨_, rfl⟩
      rw [hs] at CI
      have S2 := Lib.hid (show bytesL (ts ++ [s]) = (zs.take (j + 1)).map decI from by
        rw [take_getD29 zs 0 j (by omega), List.map_append, ← hS.out, hx2, ← hs]; simp [bytesL])
      have i1 : (0 : Int) ≤ (j : Int) := by omega
      have i2 : (j : Int) < (n : Int) := by omega
      have HA := Lib.hid (show strsV (ts ++ [s]) = strsV ts ++ [.string s] from by simp [strsV])
      clear hc hx2 hs
      go_wp2_with fail
      refine (CI.out _ hB.out).mono ?_
      rintro e w2 ⟨rfl, hb2⟩
      have B2 := Lib.hid (hB.out.trans (hb2.mono hB.out.size))
      have O2 := Lib.hid (owns_below hO.out hb2)
      clear hb2 hO hB
      go_wp2_with (at_builtin; refine wpList_append_any rfl (.tmp 12) (.tmp 15) 27 rfl w.heap.size 9 i0 (.string ByteArray.empty) 1 16 Tryd.underlying27 hii hz0 hz1 hz2 rfl (by decide) _ j _ rfl (O2.out.alloc _) _ 1 1 [.string s] rfl (some_none _) rfl (one_new _ _ _ _) (one_str _) (by unfold maxLen; omega) (by omega) (by have := B2.out.size; simp; omega) ?_; intro a3 c3 w3 hown3 hb3 hnil3)
      have O3 := Lib.hid (show w3.ownsRow w.heap.size 9 1 (.slice a3 (j + 1) c3) (j + 1) (strsV (ts ++ [s])) from by rw [HA.out]; exact hown3)
      have B3 := Lib.hid ((B2.out.alloc B2.out.size _).trans hb3)
      clear hown3 hb3 hnil3
      go_wp2_with fail
      go_roundw
      case rel => exact ⟨j + 1, a3, c3, _, by omega, by go_num, rfl, S2, O3, B3⟩
      case measure => simp [intOf] <;> omega
    · obtain rfl : n = j := by omega
      have hS2 := hS.out
      rw [List.take_of_length_le (by omega)] at hS2
      have S2 := Lib.hid hS2
      clear hS2
      go_wp2_with fail
      go_ret
      exact ⟨av, n, cv, ts, rfl, hO.out, hzl.symm, S2.out, hB.out⟩
end Go.Proofs.YtmddnklafplikaaDoor
