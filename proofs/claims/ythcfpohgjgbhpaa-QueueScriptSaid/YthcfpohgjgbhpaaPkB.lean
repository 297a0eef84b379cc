/- texts joined -/
import Derived.Test.YthcfpohgjgbhpaaPkA
import Derived.Test.YthcfpohgjgbhpaaChecked
import Derived.WalkLawsBesides
import Derived.WalkSpells
import Derived.Outline
import Derived.Deep.QuietTactic
import Derived.BigQuiet
import Derived.Deep.DeepCutAuto
/- what was answered is written over, and beyond: api.Ask -/
namespace Go.Proofs.Ythcfpohgjgbhpaa
open Go.RowKit
set_option linter.unusedVariables false
set_option maxRecDepth 20000
theorem sfOAsks_info : (Try.prog.info? 34).map (fun i => (i.zero, i.size, i.bytes)) = some (some (.agg #[.int .i64 0, .int .i64 0, .int .i64 0, .int .i64 0, .int .i64 0, .string ⟨#[]⟩, .int .i64 0, .int .i64 0, .bool false, .int .i64 0, .string ⟨#[]⟩]), 11, 104) := by kernel_rfl
theorem sgrown_setAsks {w wr : World} {g : Nat} (h : w.grownBy wr (some g)) (o : Nat) (v : Value) : w.grownBy (wr.setCell ⟨g, o, none⟩ v) (some g) :=
  ⟨h.os, h.tape, h.output, by have := h.size; simpa using this, fun b hb hne => (Below.heap_setCell wr ⟨g, o, none⟩ v b (fun e => hne (by show some b = some g; rw [e]))).trans (h.block b hb hne)⟩
theorem over_newAsks (w : World) (e : TypeId) (fr : Nat × Nat) : ∀ ad, (some ⟨w.heap.size, 0, none⟩ : Option Addr) = some ad → ∀ j x, ([.int .i64 (-9), .int .i64 0, .int .i64 0, .int .i64 0, .int .i64 0, .string ⟨#[]⟩, .int .i64 0, .int .i64 0, .bool false, .int .i64 0, .string ⟨#[]⟩] : List Value)[j]? = some x → (w.alloc (.cells #[.int .i64 (-9), .int .i64 0, .int .i64 0, .int .i64 0, .int .i64 0, .string ⟨#[]⟩, .int .i64 0, .int .i64 0, .bool false, .int .i64 0, .string ⟨#[]⟩] e fr)).cell? (ad.add j) = some x := by
  intro ad h j x hx
  cases h
  rw [Go.WideShapes.add_plain, Nat.zero_add, World.cell?_alloc_mark]
  simpa using hx
theorem over_oneAsks : ∀ u ∈ ([.int .i64 (-9), .int .i64 0, .int .i64 0, .int .i64 0, .int .i64 0, .string ⟨#[]⟩, .int .i64 0, .int .i64 0, .bool false, .int .i64 0, .string ⟨#[]⟩] : List Value), u.oneCell' = true := by simp [Value.oneCell']
set_option maxHeartbeats 3200000 in
/-- Written over is a slice of the call's own (its blocks lie from B on): below B nothing turns, and nothing but the slice's block. -/
theorem overAsks_any (B : Nat) (a : Option Addr) (n cap : Nat) (xs : List Value) (w : World) (h : w.ownsRow B 34 11 (.slice a n cap) n xs) (hB : B ≤ w.heap.size) (hn : n ≤ 1048576) :
    Calls Try.prog 20 #[.slice a n cap] w fun e w' => e = .returned (.tuple #[]) ∧ Below B w w' ∧ w.grownBy w' (Value.slice a n cap).ownBlock := by
  obtain ⟨i0, hi, hz0, hz1, hz2⟩ := info_parts sfOAsks_info
  have H := Lib.hid h
  clear h
  go_enter Try.func20, Try.ntmps20
  go_wp2_with fail
  go_loopw [2] (fun i wr => ∃ (k : Nat) (ys : List Value), k ≤ n ∧ i = .int .i64 k ∧ Hid (wr.ownsRow B 34 11 (.slice a n cap) n ys) ∧ Hid (Below B w wr) ∧ Hid (w.grownBy wr (Value.slice a n cap).ownBlock)) (fun i _ => n - (intOf i).toNat)
  case atStart => exact ⟨0, xs, by omega, rfl, H, Below.refl _ _, Lib.hid ⟨rfl, rfl, rfl, Nat.le_refl _, fun _ _ _ => rfl⟩⟩
  case round =>
    obtain ⟨k, ys, hk, rfl, hO, hBw, hGr⟩ := hrel
    by_cases hlt : k < n
    · obtain ⟨g, rfl⟩ : ∃ g, a = some ⟨g, 0, none⟩ := by
        obtain ⟨g, cap', hv⟩ := Joins.ownsRow_form hO.out (by omega)
        simp only [Value.slice.injEq] at hv
        exact ⟨g, hv.1⟩
      have hyl : ys.length = n * 11 := hO.out.1
      have hc0 := hO.out.cellAt (k * 11) (by omega)
      have hc1 := hO.out.cellAt (k * 11 + 1) (by omega)
      have hc2 := hO.out.cellAt (k * 11 + 2) (by omega)
      have hc3 := hO.out.cellAt (k * 11 + 3) (by omega)
      have hc4 := hO.out.cellAt (k * 11 + 4) (by omega)
      have hc5 := hO.out.cellAt (k * 11 + 5) (by omega)
      have hc6 := hO.out.cellAt (k * 11 + 6) (by omega)
      have hc7 := hO.out.cellAt (k * 11 + 7) (by omega)
      have hc8 := hO.out.cellAt (k * 11 + 8) (by omega)
      have hc9 := hO.out.cellAt (k * 11 + 9) (by omega)
      have hc10 := hO.out.cellAt (k * 11 + 10) (by omega)
      rw [List.getElem?_eq_getElem (by omega)] at hc0 hc1 hc2 hc3 hc4 hc5 hc6 hc7 hc8 hc9 hc10
      obtain ⟨y0, hy0⟩ : ∃ y, ys[k * 11] = y := ⟨_, rfl⟩
      rw [hy0] at hc0
      obtain ⟨y1, hy1⟩ : ∃ y, ys[k * 11 + 1] = y := ⟨_, rfl⟩
      rw [hy1] at hc1
      obtain ⟨y2, hy2⟩ : ∃ y, ys[k * 11 + 2] = y := ⟨_, rfl⟩
      rw [hy2] at hc2
      obtain ⟨y3, hy3⟩ : ∃ y, ys[k * 11 + 3] = y := ⟨_, rfl⟩
      rw [hy3] at hc3
      obtain ⟨y4, hy4⟩ : ∃ y, ys[k * 11 + 4] = y := ⟨_, rfl⟩
      rw [hy4] at hc4
      obtain ⟨y5, hy5⟩ : ∃ y, ys[k * 11 + 5] = y := ⟨_, rfl⟩
      rw [hy5] at hc5
      obtain ⟨y6, hy6⟩ : ∃ y, ys[k * 11 + 6] = y := ⟨_, rfl⟩
      rw [hy6] at hc6
      obtain ⟨y7, hy7⟩ : ∃ y, ys[k * 11 + 7] = y := ⟨_, rfl⟩
      rw [hy7] at hc7
      obtain ⟨y8, hy8⟩ : ∃ y, ys[k * 11 + 8] = y := ⟨_, rfl⟩
      rw [hy8] at hc8
      obtain ⟨y9, hy9⟩ : ∃ y, ys[k * 11 + 9] = y := ⟨_, rfl⟩
      rw [hy9] at hc9
      obtain ⟨y10, hy10⟩ : ∃ y, ys[k * 11 + 10] = y := ⟨_, rfl⟩
      rw [hy10] at hc10
      clear hy0 hy1 hy2 hy3 hy4 hy5 hy6 hy7 hy8 hy9 hy10
      clear hyl
      have hf0 := hO.out.frozenAt (k * 11)
      have hf1 := hO.out.frozenAt (k * 11 + 1)
      have hf2 := hO.out.frozenAt (k * 11 + 2)
      have hf3 := hO.out.frozenAt (k * 11 + 3)
      have hf4 := hO.out.frozenAt (k * 11 + 4)
      have hf5 := hO.out.frozenAt (k * 11 + 5)
      have hf6 := hO.out.frozenAt (k * 11 + 6)
      have hf7 := hO.out.frozenAt (k * 11 + 7)
      have hf8 := hO.out.frozenAt (k * 11 + 8)
      have hf9 := hO.out.frozenAt (k * 11 + 9)
      have hf10 := hO.out.frozenAt (k * 11 + 10)
      have O2 := Lib.hid ((((((((((((hO.out.stored (k * 11) (.int .i64 (-9))).1.stored (k * 11 + 1) (.int .i64 0)).1.stored (k * 11 + 2) (.int .i64 0)).1.stored (k * 11 + 3) (.int .i64 0)).1.stored (k * 11 + 4) (.int .i64 0)).1.stored (k * 11 + 5) (.string ⟨#[]⟩)).1.stored (k * 11 + 6) (.int .i64 0)).1.stored (k * 11 + 7) (.int .i64 0)).1.stored (k * 11 + 8) (.bool false)).1.stored (k * 11 + 9) (.int .i64 0)).1.stored (k * 11 + 10) (.string ⟨#[]⟩)).1)
      have B2 := Lib.hid (((((((((((hBw.out.setCell (p := ⟨g, k * 11, none⟩) (hO.out.lt g rfl).1 (.int .i64 (-9))).setCell (p := ⟨g, k * 11 + 1, none⟩) (hO.out.lt g rfl).1 (.int .i64 0)).setCell (p := ⟨g, k * 11 + 2, none⟩) (hO.out.lt g rfl).1 (.int .i64 0)).setCell (p := ⟨g, k * 11 + 3, none⟩) (hO.out.lt g rfl).1 (.int .i64 0)).setCell (p := ⟨g, k * 11 + 4, none⟩) (hO.out.lt g rfl).1 (.int .i64 0)).setCell (p := ⟨g, k * 11 + 5, none⟩) (hO.out.lt g rfl).1 (.string ⟨#[]⟩)).setCell (p := ⟨g, k * 11 + 6, none⟩) (hO.out.lt g rfl).1 (.int .i64 0)).setCell (p := ⟨g, k * 11 + 7, none⟩) (hO.out.lt g rfl).1 (.int .i64 0)).setCell (p := ⟨g, k * 11 + 8, none⟩) (hO.out.lt g rfl).1 (.bool false)).setCell (p := ⟨g, k * 11 + 9, none⟩) (hO.out.lt g rfl).1 (.int .i64 0)).setCell (p := ⟨g, k * 11 + 10, none⟩) (hO.out.lt g rfl).1 (.string ⟨#[]⟩))
      have G2 := Lib.hid (sgrown_setAsks (sgrown_setAsks (sgrown_setAsks (sgrown_setAsks (sgrown_setAsks (sgrown_setAsks (sgrown_setAsks (sgrown_setAsks (sgrown_setAsks (sgrown_setAsks (sgrown_setAsks hGr.out (k * 11) (.int .i64 (-9))) (k * 11 + 1) (.int .i64 0)) (k * 11 + 2) (.int .i64 0)) (k * 11 + 3) (.int .i64 0)) (k * 11 + 4) (.int .i64 0)) (k * 11 + 5) (.string ⟨#[]⟩)) (k * 11 + 6) (.int .i64 0)) (k * 11 + 7) (.int .i64 0)) (k * 11 + 8) (.bool false)) (k * 11 + 9) (.int .i64 0)) (k * 11 + 10) (.string ⟨#[]⟩))
      clear hO hBw hGr
      go_wp2_with fail
      go_roundw
      case rel => exact ⟨k + 1, _, by omega, by go_num, O2, B2, G2⟩
      case measure => simp [intOf]; omega
    · have hs := hBw.out.size
      go_wp2_with (at_builtin; refine wpList_append_own _ rfl (.tmp 13) (.tmp 15) 28 rfl B 34 i0 _ 11 104 Try.underlying28 hi hz0 hz1 hz2 rfl (by decide) _ n _ rfl (hO.out.alloc _) _ 1 1 [.int .i64 (-9), .int .i64 0, .int .i64 0, .int .i64 0, .int .i64 0, .string ⟨#[]⟩, .int .i64 0, .int .i64 0, .bool false, .int .i64 0, .string ⟨#[]⟩] rfl rfl (over_newAsks _ _ _ _ rfl) over_oneAsks (by unfold maxLen; omega) (by omega) (by simp; omega) ?_; intro v3 w3 hown3 hg3 hn3)
      go_end0
      have hsz := hGr.out.size
      refine ⟨rfl, hBw.out.trans (((Below.refl _ _).alloc (by omega) _).grown hg3 (by simp; omega) fun k hk => (hO.out.lt k hk).1), ⟨hg3.os.trans hGr.out.os, hg3.tape.trans hGr.out.tape, hg3.output.trans hGr.out.output, ?_, fun b hb hne => ?_⟩⟩
      · have := hg3.size; simp at this; omega
      · rw [hg3.block b (by simp; omega) hne, Below.heap_alloc _ _ _ (by omega)]
        exact hGr.out.block b hb hne
end Go.Proofs.Ythcfpohgjgbhpaa
/- queue: asks of places told by numbers, plain -/
namespace Go.Proofs.Ythcfpohgjgbhpaa
open Go.RowKit
set_option linter.unusedVariables false
set_option maxRecDepth 20000
namespace Qu
def askK (qf : Int → Int) (k : Int) : AskP := A4 (k / 6) (qf k) (k % 6) 1
def qmap (W : List Int) (qf : Int → Int) : List AskP := W.map (askK qf)
def qupd (qf : Int → Int) (k i : Int) : Int → Int := fun x => if x = k then i else qf x
structure Wok (W : List Int) (qf : Int → Int) (i : Int) : Prop where
  rng : ∀ k ∈ W, 0 ≤ k ∧ k < 24
  nd : W.Nodup
  old : ∀ k ∈ W, qf k < i
theorem wok_nil (qf : Int → Int) (i : Int) : Wok [] qf i := ⟨by simp, List.nodup_nil, by simp⟩
theorem same_k {qf : Int → Int} {k m : Int} (hk : 0 ≤ k ∧ k < 24) (hm : 0 ≤ m ∧ m < 24) : same (askK qf k) (m / 6) (m % 6) ↔ k = m := by
  unfold same askK A4; simp only; omega
theorem find_yes {W : List Int} {qf : Int → Int} {i m : Int} (h : Wok W qf i) (hm : m ∈ W) : find (qmap W qf) (m / 6) (m % 6) = some (askK qf m) := by
  unfold find qmap
  rw [List.find?_map]
  have hr := h.rng m hm
  have : List.find? ((fun x => decide (same x (m / 6) (m % 6))) ∘ askK qf) W = some m := by
    rw [List.find?_eq_some_iff_append]
    refine ⟨by simp only [Function.comp]; exact decide_eq_true ((same_k hr hr).2 rfl), ?_⟩
    obtain ⟨A, B, e⟩ := List.append_of_mem hm
    refine ⟨A, B, e, fun a ha => ?_⟩
    have hn := h.nd
    rw [e] at hn
    have hne : a ≠ m := by
      intro e2; subst e2
      have := List.nodup_append.1 hn
      exact this.2.2 a ha a (by simp) rfl
    simp only [Function.comp, Bool.not_eq_true', decide_eq_false_iff_not]
    exact fun hs => hne ((same_k (h.rng a (by rw [e]; simp [ha])) hr).1 hs)
  rw [this]; rfl
theorem find_no {W : List Int} {qf : Int → Int} {i m : Int} (h : Wok W qf i) (hr : 0 ≤ m ∧ m < 24) (hm : m ∉ W) : find (qmap W qf) (m / 6) (m % 6) = none := by
  rw [find_none]
  intro x hx
  unfold qmap at hx
  obtain ⟨k, hk, rfl⟩ := List.mem_map.1 hx
  exact fun hs => hm ((same_k (h.rng k hk) hr).1 hs ▸ hk)
theorem may_k {m i : Int} (hr : 0 ≤ m ∧ m < 24) : may (A4 (m / 6) i (m % 6) 1) := by unfold may A4; simp only; omega
theorem map_upd {W : List Int} {qf : Int → Int} {m i : Int} (hW : ∀ k ∈ W, k ≠ m) : W.map (askK (qupd qf m i)) = W.map (askK qf) := by
  apply List.map_congr_left
  intro k hk
  unfold askK qupd; rw [if_neg (hW k hk)]
theorem push_seen {W : List Int} {qf : Int → Int} {i m : Int} (h : Wok W qf i) (hm : m ∈ W) : pushed (qmap W qf) (A4 (m / 6) i (m % 6) 1) = true ∧ push (qmap W qf) (A4 (m / 6) i (m % 6) 1) = qmap W (qupd qf m i) ∧ Wok W (qupd qf m i) (i + 1) := by
  have hr := h.rng m hm
  have hf := find_yes h hm
  have ho := h.old m hm
  have hp : pushed (qmap W qf) (A4 (m / 6) i (m % 6) 1) = true := by
    unfold pushed
    rw [decide_eq_true (may_k hr)]
    show (true && match find (qmap W qf) (m / 6) (m % 6) with | some x => !decide (newer x (A4 (m / 6) i (m % 6) 1)) | none => true) = true
    rw [hf]
    have : ¬ newer (askK qf m) (A4 (m / 6) i (m % 6) 1) := by unfold newer askK A4; simp only; omega
    simp [this]
  refine ⟨hp, ?_, ⟨h.rng, h.nd, fun k hk => ?_⟩⟩
  · unfold push
    rw [hp, if_pos rfl]
    show (match find (qmap W qf) (m / 6) (m % 6) with | some _ => put (qmap W qf) (A4 (m / 6) i (m % 6) 1) | none => qmap W qf ++ [A4 (m / 6) i (m % 6) 1]) = _
    rw [hf]
    show put (qmap W qf) (A4 (m / 6) i (m % 6) 1) = _
    unfold put qmap
    rw [List.map_map]
    apply List.map_congr_left
    intro k hk
    simp only [Function.comp]
    by_cases e : k = m
    · subst e
      rw [if_pos (show same (askK qf k) (A4 (k / 6) i (k % 6) 1).slot (A4 (k / 6) i (k % 6) 1).shard from (same_k (h.rng k hk) hr).2 rfl)]
      unfold askK qupd; rw [if_pos rfl]
    · rw [if_neg (show ¬ same (askK qf k) (A4 (m / 6) i (m % 6) 1).slot (A4 (m / 6) i (m % 6) 1).shard from fun hs => e ((same_k (h.rng k hk) hr).1 hs))]
      unfold askK qupd; rw [if_neg e]
  · unfold qupd; split
    · omega
    · have := h.old k hk; omega
theorem push_fresh {W : List Int} {qf : Int → Int} {i m : Int} (h : Wok W qf i) (hr : 0 ≤ m ∧ m < 24) (hm : m ∉ W) : pushed (qmap W qf) (A4 (m / 6) i (m % 6) 1) = true ∧ push (qmap W qf) (A4 (m / 6) i (m % 6) 1) = qmap (W ++ [m]) (qupd qf m i) ∧ Wok (W ++ [m]) (qupd qf m i) (i + 1) := by
  have hf := find_no h hr hm
  have hp : pushed (qmap W qf) (A4 (m / 6) i (m % 6) 1) = true := by
    unfold pushed
    rw [decide_eq_true (may_k hr)]
    show (true && match find (qmap W qf) (m / 6) (m % 6) with | some x => !decide (newer x (A4 (m / 6) i (m % 6) 1)) | none => true) = true
    rw [hf]; rfl
  refine ⟨hp, ?_, ⟨fun k hk => ?_, ?_, fun k hk => ?_⟩⟩
  · unfold push
    rw [hp, if_pos rfl]
    show (match find (qmap W qf) (m / 6) (m % 6) with | some _ => put (qmap W qf) (A4 (m / 6) i (m % 6) 1) | none => qmap W qf ++ [A4 (m / 6) i (m % 6) 1]) = _
    rw [hf]
    show qmap W qf ++ [A4 (m / 6) i (m % 6) 1] = _
    unfold qmap
    rw [List.map_append, map_upd (fun k hk e => by subst e; exact hm hk)]
    congr 1
    simp only [List.map_cons, List.map_nil]
    unfold askK qupd; rw [if_pos rfl]
  · rcases List.mem_append.1 hk with x | x
    · exact h.rng k x
    · simp at x; subst x; exact hr
  · rw [List.nodup_append]
    exact ⟨h.nd, by simp, fun a ha b hb e => by simp at hb; subst hb; subst e; exact hm ha⟩
  · unfold qupd; split
    · omega
    · rename_i e
      rcases List.mem_append.1 hk with x | x
      · have := h.old k x; omega
      · simp at x; exact absurd x e
end Qu
end Go.Proofs.Ythcfpohgjgbhpaa
/- a number, from 0 to below n -/
namespace Go.Proofs.Ythcfpohgjgbhpaa
open Go.RowKit
set_option linter.unusedVariables false
set_option maxRecDepth 20000
def lowV (x n : Int) : Int := IntKind.u64.wrap x % n
theorem low_bd (x n : Int) (h : 0 < n) : 0 ≤ lowV x n ∧ lowV x n < n := ⟨Int.emod_nonneg _ (by omega), Int.emod_lt_of_pos _ h⟩
theorem u64_in (n : Int) (h : 0 ≤ n) (h2 : n < 18446744073709551616) : IntKind.u64.wrap n = n := by
  simp only [IntKind.wrap, IntKind.signed, IntKind.bits]; simp; omega
theorem u64_bdL (d : Int) : 0 ≤ IntKind.u64.wrap d ∧ IntKind.u64.wrap d < 18446744073709551616 := by
  simp only [IntKind.wrap, IntKind.signed, IntKind.bits]; simp; omega
theorem low_any (x n : Int) (h : 1 ≤ n) (h2 : n < 4611686018427387904) (w : World) :
    Calls Try.prog 21 #[.int .i64 x, .int .i64 n] w fun e w' => e = .returned (.int .i64 (lowV x n)) ∧ w = w' := by
  have hb := low_bd x n (by omega)
  have hw := u64_in n (by omega) (by omega)
  have hx := u64_bdL x
  go_enter Try.func21, Try.ntmps21
  go_wp2
  go_ret
  exact ⟨ret_int (by unfold lowV at *; rw [IntWalk.wrap64_in _ ⟨by omega, by omega⟩]), rfl⟩
end Go.Proofs.Ythcfpohgjgbhpaa
