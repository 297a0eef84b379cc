/- texts joined -/
import Derived.Test.YtlcmndbnknifhaaPkA
import Derived.Test.YtlcmndbnknifhaaChecked
import Derived.Maps.OwnSet
import Derived.StringKeys
import Derived.WalkArith
import Derived.Deep.AppendLies
import Derived.Deep.DeepCutAuto
import Derived.Deep.RegionHeld3
import Derived.Deep.RegionLaw
import Derived.Laws.OwnMore
import Derived.Lib.SliceRun
import Derived.Laws.ResultCell
import Derived.Lib.AppendStr
import Derived.Lib.Strings
import Derived.Lib.ConvBytes
import Derived.Laws.BytesArg
import Derived.Lib.SlBytesRow
import Derived.WalkLawsBesides
import Derived.WalkSpells
import Derived.Outline
import Derived.Deep.QuietTactic
import Derived.BigQuiet
/- graph: contracts of cut, follow, nameOf -/
namespace Go.Proofs.Ytlcmndbnknifhaa
open Go.RowKit
set_option linter.unusedVariables false
set_option maxRecDepth 20000
theorem rst_over {s : Tx} (h : s.size ≤ (Utf8.decode s 0).2) : rstS s = ⟨#[]⟩ := empty_size (by
  unfold rstS
  rw [ByteArray.size_extract]; omega)
set_option maxHeartbeats 1600000 in
theorem cut_any (s : Tx) (w : World) (h0 : 0 < s.size) (hs : s.size ≤ 1048576) :
    Calls Try.prog 80 #[.string s] w fun e w' => e = .returned (.tuple #[.int .i32 (labS s), .string (rstS s)]) ∧ Below w.heap.size w w' := by
  obtain ⟨wd, hwd⟩ : ∃ wd, (Utf8.decode s 0).2 = wd := ⟨_, rfl⟩
  have h1 : 1 ≤ wd := hwd ▸ decode_width s 0 h0
  have HW := Lib.hid hwd
  clear hwd
  go_enter Try.func80, Try.ntmps80
  go_wp2_with fail
  go_loopw [4] (fun n wr => ∃ (pos : Nat) (r : Int), n = .int .i32 r ∧ wr = w.iter s pos ∧ Hid ((pos = 0 ∧ r = -1) ∨ (pos = wd ∧ r = (labS s : Int)))) (fun _ wr => s.size - wr.iterPos w.heap.size)
  case atStart => exact ⟨0, -1, rfl, rfl, Lib.hid (Or.inl ⟨rfl, rfl⟩)⟩
  case round =>
    obtain ⟨pos, r, rfl, rfl, hP⟩ := hrel
    rcases hP.out with ⟨h2, h3⟩ | ⟨h2, h3⟩
    · subst h2 h3
      have hnx := fun ty => run_next_any (P := Try.prog) w s 0 ty h0
      rw [HW.out] at hnx
      have hl : (Utf8.decode s 0).1 = labS s := rfl
      rw [hl] at hnx
      generalize hlab : labS s = lab at *
      have HLAB := Lib.hid hlab
      clear hl hlab
      go_wp2_with fail
      go_roundw
      case rel => exact ⟨wd, (lab : Int), rfl, rfl, Lib.hid (Or.inr ⟨rfl, rfl⟩)⟩
      case measure => simp; omega
    · subst h3
      obtain rfl : wd = pos := h2.symm
      by_cases hlt : wd < s.size
      · have hnx := fun ty => run_next_any (P := Try.prog) w s wd ty hlt
        have hgt : decide ((wd : Int) > 0) = true := decide_eq_true (by omega)
        have hgt2 : decide (0 < wd) = true := decide_eq_true (by omega)
        have e1 : rstS s = s.extract wd s.size := by unfold rstS; rw [HW.out]
        have E1 := Lib.hid e1
        clear e1
        go_wp2_with fail
        go_quiet (fail)
        go_wp2_with fail
        go_ret2
        exact ⟨by rw [E1.out]; rfl, (below_one _ _).trans ((below_drewN _ _).mono (below_one w _).size)⟩
      · have hnx := fun ty => run_next_end (P := Try.prog) w s wd ty hlt
        have e1 : rstS s = ⟨#[]⟩ := rst_over (by rw [HW.out]; omega)
        have E1 := Lib.hid e1
        clear e1
        go_wp2_with fail
        go_ret2
        exact ⟨by rw [E1.out]; rfl, below_one _ _⟩
theorem getD_tx {l : List Tx} {j : Nat} (h : j < l.length) : l.getD j ByteArray.empty ∈ l := by
  rw [List.getD_eq_getElem?_getD, List.getElem?_eq_getElem h]; simp
theorem take_tx (l : List Tx) (j : Nat) (h : j < l.length) : l.take (j + 1) = l.take j ++ [l.getD j ByteArray.empty] := by
  rw [List.take_add_one, List.getElem?_eq_getElem h, List.getD_eq_getElem?_getD, List.getElem?_eq_getElem h]; rfl
theorem app_list (a b : ByteArray) : (a ++ b).data.toList = a.data.toList ++ b.data.toList := by simp
set_option maxHeartbeats 1600000 in
theorem nameOf_any (a : Option Addr) (n cap : Nat) (l : List Tx) (w : World) (hh : HoldsT w a n l) (hn : n ≤ 100) (hsz : ∀ t ∈ l, t.size ≤ 100) :
    Calls Try.prog 55 #[.slice a n cap] w fun e w' => (∃ s : Tx, e = .returned (.string s) ∧ s.data.toList = nameL l) ∧ w = w' := by
  have hl := hh.len
  have H := Lib.hid hh; have HSZ := Lib.hid hsz
  clear hh hsz
  go_enter Try.func55, Try.ntmps55
  go_wp2_with fail
  go_loop [3, 5, 8] (fun sv tv iv => ∃ (j : Nat) (s : Tx), j ≤ n ∧ sv = .string s ∧ iv = .int .i64 j ∧ Hid (s.data.toList = nameL (l.take j)) ∧ s.size ≤ j * 101) (fun _ _ iv => n - (intOf iv).toNat)
  case atStart => exact ⟨0, ⟨#[]⟩, by omega, rfl, rfl, Lib.hid rfl, by simp [ByteArray.size]⟩
  case round =>
    obtain ⟨j, s, hj, rfl, rfl, hS, hz⟩ := hrel
    by_cases hlt : j < n
    · obtain ⟨b, o, rfl, hc⟩ := H.out.at (by omega)
      have x0 := hc j hlt
      obtain ⟨t, ht⟩ : ∃ t, l.getD j ByteArray.empty = t := ⟨_, rfl⟩
      rw [ht] at x0
      have htz := HSZ.out t (ht ▸ getD_tx (by omega))
      have i1 : (0 : Int) ≤ (j : Int) := by omega
      have i2 : (j : Int) < (n : Int) := by omega
      have HN := Lib.hid (show (s ++ (t ++ ⟨#[255]⟩)).data.toList = nameL (l.take (j + 1)) from by
        rw [take_tx l j (by omega), nameL_snoc, app_list, app_list, hS.out, ht])
      have z1 : (t ++ (⟨#[255]⟩ : ByteArray)).size = t.size + 1 := by rw [ByteArray.size_append]; rfl
      have z2 : (s ++ (t ++ (⟨#[255]⟩ : ByteArray))).size = s.size + (t.size + 1) := by rw [ByteArray.size_append, z1]
      have HZ := Lib.hid (show (s ++ (t ++ (⟨#[255]⟩ : ByteArray))).size ≤ (j + 1) * 101 from by rw [z2]; omega)
      clear hc ht z1 z2
      go_wp2_with fail
      go_round
      case rel => exact ⟨j + 1, _, by omega, rfl, by go_num, HN, HZ.out⟩
      case measure => simp [intOf] <;> omega
    · obtain rfl : j = n := by omega
      have HE := Lib.hid (show s.data.toList = nameL l from by rw [hS.out, List.take_of_length_le (by omega)])
      go_wp2_with fail
      go_ret
      exact ⟨⟨s, rfl, HE.out⟩, rfl⟩
theorem tw_stop {α : Type} (p : α → Bool) (d : α) : ∀ (l : List α) (j : Nat), j ≤ l.length → (∀ t ∈ l.take j, p t = true) → (j < l.length → p (l.getD j d) = false) → l.takeWhile p = l.take j
  | [], j, hj, _, _ => by simp
  | x :: l, 0, _, _, h => by
    have := h (by simp)
    rw [List.takeWhile_cons, if_neg (by simpa using this)]; simp
  | x :: l, j + 1, hj, ha, h => by
    rw [List.takeWhile_cons, if_pos (ha x (by simp)), List.take_succ_cons]
    rw [tw_stop p d l j (by simpa using hj) (fun t ht => ha t (by simp [ht])) (fun hlt => by simpa using h (by simpa using hlt))]
theorem strG_info : (Try.prog.info? 9).map (fun i => (i.zero, i.size, i.bytes)) = some (some (.string ⟨#[]⟩), 1, 16) := by kernel_rfl
def FolP (w : World) (l : List Tx) (e : Ending) (w' : World) : Prop := ∃ a c, e = .returned (.tuple #[.int .i32 (folS l).1, .slice a (folS l).2.length c]) ∧ w'.ownsRow w.heap.size 9 1 (.slice a (folS l).2.length c) (folS l).2.length (strsV (folS l).2) ∧ Below w.heap.size w w'
set_option maxHeartbeats 1600000 in
theorem follow_any (a : Option Addr) (n cap : Nat) (l : List Tx) (w : World) (hh : HoldsT w a n l) (h0 : 0 < n) (hn : n ≤ 100) (hp : ∀ t ∈ l, 0 < t.size) (hsz : ∀ t ∈ l, t.size ≤ 100) :
    Calls Try.prog 56 #[.slice a n cap] w (FolP w l) := by
  obtain ⟨i0, hi, hz0, hz1, hz2⟩ := info_parts strG_info
  have hl := hh.len
  obtain ⟨lab, hlab⟩ : ∃ k, labS (l.getD 0 ByteArray.empty) = k := ⟨_, rfl⟩
  have HLAB := Lib.hid hlab
  have TW := Lib.hid (fun (j : Nat) (hj : j ≤ n) (ha : ∀ t ∈ l.take j, labS t = lab) (hs : j < n → labS (l.getD j ByteArray.empty) ≠ lab) => show folS l = (lab, (l.take j).map rstS) from by
    cases l with
    | nil => simp at hl; omega
    | cons s l =>
      have e : labS s = lab := hlab
      show (labS s, ((s :: l).takeWhile (fun t => decide (labS t = labS s))).map rstS) = _
      rw [tw_stop (fun t => decide (labS t = labS s)) ByteArray.empty (s :: l) j (by omega) (fun t ht => decide_eq_true (by rw [ha t ht, e])) (fun hlt => decide_eq_false (by rw [e]; exact hs (by omega))), e])
  have H := Lib.hid hh; have HSZ := Lib.hid hsz; have HP := Lib.hid hp
  obtain ⟨b, o, rfl, hc⟩ := hh.at h0
  have x0 := hc 0 h0
  obtain ⟨s0, hs0⟩ : ∃ t, l.getD 0 ByteArray.empty = t := ⟨_, rfl⟩
  have hm0 : s0 ∈ l := hs0 ▸ getD_tx (by omega)
  rw [hs0] at x0 hlab
  rw [Nat.add_zero] at x0
  have C0 := Lib.hid (cut_any s0 w (hp s0 hm0) (by have := hsz s0 hm0; omega))
  rw [hlab] at C0
  have n0 : (0 : Int) < (n : Int) := by omega
  clear hh hsz hp hc hlab hs0 hm0
  go_enter Try.func56, Try.ntmps56
  go_wp2_with fail
  refine C0.out.mono ?_
  rintro e w1 ⟨rfl, hb1⟩
  have B1 := Lib.hid hb1
  clear hb1 C0 x0
  go_wp2_with fail
  go_loopw [6, 20] (fun kv iv wr => ∃ (j : Nat) (av : Option Addr) (cv : Nat), j ≤ n ∧ kv = .slice av j cv ∧ iv = .int .i64 j ∧ Hid (∀ t ∈ l.take j, labS t = lab) ∧ Hid (wr.ownsRow w.heap.size 9 1 (.slice av j cv) j (strsV ((l.take j).map rstS))) ∧ Hid (Below w.heap.size w wr)) (fun _ iv _ => n - (intOf iv).toNat)
  case atStart => exact ⟨0, none, 0, by omega, rfl, rfl, Lib.hid (by simp), Lib.hid (by simpa [strsV] using World.ownsRow_nil w1 w.heap.size 9 1), B1⟩
  case round =>
    obtain ⟨j, av, cv, hj, rfl, rfl, hA, hO, hB⟩ := hrel
    have FIN := Lib.hid (fun (hs : j < n → labS (l.getD j ByteArray.empty) ≠ lab) w' (hb : Below w.heap.size w w') (ho : w'.ownsRow w.heap.size 9 1 (.slice av j cv) j (strsV ((l.take j).map rstS))) => show FolP w l (.returned (.tuple #[.int .i32 lab, .slice av j cv])) w' from by
      have e := TW.out j hj hA.out hs
      have el : ((l.take j).map rstS).length = j := by rw [List.length_map, List.length_take]; omega
      refine ⟨av, cv, ?_, ?_, hb⟩
      · rw [e]; simp only [el]
      · rw [e]; simp only [el]; exact ho)
    by_cases hlt : j < n
    · obtain ⟨b', o', hbe, hc⟩ := (H.out.below hB.out).at (by omega)
      injection hbe with hbe; injection hbe with e1 e2; subst e1 e2
      have x0 := hc j hlt
      obtain ⟨t, ht⟩ : ∃ t, l.getD j ByteArray.empty = t := ⟨_, rfl⟩
      rw [ht] at x0
      have htm : t ∈ l := ht ▸ getD_tx (by omega)
      have htz := HSZ.out t htm
      have CT := Lib.hid (fun w' => cut_any t w' (HP.out t htm) (by omega))
      have i1 : (0 : Int) ≤ (j : Int) := by omega
      have i2 : (j : Int) < (n : Int) := by omega
      have HT := Lib.hid ht
      have TK := Lib.hid (take_tx l j (by omega))
      clear hc htm ht
      go_wp2_with fail
      refine (CT.out _).mono ?_
      rintro e w2 ⟨rfl, hb2⟩
      have B2 := Lib.hid (hB.out.trans (hb2.mono hB.out.size))
      have O2 := Lib.hid (owns_below hO.out hb2)
      clear hb2 CT x0
      by_cases hq : labS t = lab
      · have q1 : ((labS t : Int) != (lab : Int)) = false := by rw [hq]; simp
        have HQ := Lib.hid hq
        clear hq
        go_wp2_with (at_builtin; refine wpList_append_any rfl (.tmp 32) (.tmp 34) 22 rfl w.heap.size 9 i0 _ 1 16 Try.underlying22 hi hz0 hz1 hz2 rfl (by decide) _ j _ rfl (O2.out.alloc _) _ 1 1 [.string (rstS t)] rfl (some_none _) rfl (one_new _ _ _ _) (one_str _) (by unfold maxLen; omega) (by omega) (by have := B2.out.size; simp; omega) ?_; intro a5 c5 w5 hown5 hb5 hnil5)
        have A5 := Lib.hid (show ∀ u ∈ l.take (j + 1), labS u = lab from fun u hu => by
          rw [TK.out, HT.out] at hu
          rcases List.mem_append.1 hu with hu | hu
          · exact hA.out u hu
          · simp only [List.mem_singleton] at hu; rw [hu]; exact HQ.out)
        have O5 := Lib.hid (show w5.ownsRow w.heap.size 9 1 (.slice a5 (j + 1) c5) (j + 1) (strsV ((l.take (j + 1)).map rstS)) from by
          rw [TK.out, HT.out, List.map_append]
          show w5.ownsRow _ _ _ _ _ (strsV ((l.take j).map rstS ++ [rstS t]))
          rw [strsV_snoc]; exact hown5)
        have B5 := Lib.hid (B2.out.trans (((Below.refl w.heap.size w2).alloc B2.out.size _).trans hb5))
        clear hown5 hb5 hnil5
        go_roundw
        case rel => exact ⟨j + 1, a5, c5, by omega, rfl, by go_num, A5, O5, B5⟩
        case measure => simp [intOf] <;> omega
      · have q1 : ((labS t : Int) != (lab : Int)) = true := by rw [bne_iff_ne]; omega
        have HQ := Lib.hid hq
        clear hq
        go_wp2_with fail
        go_ret2
        exact FIN.out (fun _ => by rw [HT.out]; exact HQ.out) _ B2.out O2.out
    · go_wp2_with fail
      go_ret2
      exact FIN.out (fun h => absurd h hlt) _ hB.out hO.out
end Go.Proofs.Ytlcmndbnknifhaa
/- a map from texts to ints in memory, as a function -/
namespace Go.Proofs.Ytlcmndbnknifhaa
open Go.RowKit Go.Maps Go.WideMaps
set_option linter.unusedVariables false
set_option maxRecDepth 20000
theorem lawMs : Keyed Try.prog 9 := string_keyed Try.underlying9
theorem zeroMs (w : World) : (zeroValue 3).run Try.prog w = .ok (.int .i64 0) w := by kernel_rfl
/-- f with v at k -/
def sset (f : List UInt8 → Option Int) (k : List UInt8) (v : Option Int) : List UInt8 → Option Int := fun j => if j = k then v else f j
theorem sset_at (f : List UInt8 → Option Int) (k : List UInt8) (v : Option Int) : sset f k v k = v := by simp [sset]
theorem sset_ne (f : List UInt8 → Option Int) (k j : List UInt8) (v : Option Int) (h : j ≠ k) : sset f k v j = f j := by simp [sset, h]
theorem tight_maps {P : Program} {k : TypeId} {R : Value → Option (DataW Unit × List MemPlace)} {w : World} {b n : Nat} {D : DataW Unit} (h : w.ownsMap P k R b n D) : w.ownsMap P k R b (Maps.size D) D := by
  obtain ⟨es, clock, hb, F, hs, rfl⟩ := h
  exact ⟨es, clock, hb, F, by simp [Maps.size, length_sorted], rfl⟩
/-- block b is a map of n entries: what f says -/
def MapS (w : World) (b n : Nat) (f : List UInt8 → Option Int) : Prop :=
  ∃ D : DataW Unit, w.ownsMap Try.prog 9 (plainElem Try.prog 3) b n D ∧ Maps.size D = n ∧
    ∀ z, Maps.has D (.string z) = (f z).isSome ∧ ∀ v, f z = some v → D.atKey (.string z) (.lit (.int .i64 0)) = .lit (.int .i64 v)
theorem MapS.lt {w : World} {b n : Nat} {f : List UInt8 → Option Int} (h : MapS w b n f) : b < w.heap.size := by obtain ⟨D, h, _⟩ := h; exact h.lt
theorem MapS.block {w w' : World} {b n : Nat} {f : List UInt8 → Option Int} (h : MapS w b n f) (hb : w'.heap[b]? = w.heap[b]?) : MapS w' b n f := by
  obtain ⟨D, ⟨es, clock, h1, h2⟩, h3⟩ := h
  exact ⟨D, ⟨es, clock, hb.trans h1, h2⟩, h3⟩
theorem MapS.turn {w w' : World} {b n : Nat} {f : List UInt8 → Option Int} {F : Nat → Prop} (h : MapS w b n f) (t : Turn F w w') (hF : ¬ F b) : MapS w' b n f := h.block (t.block b h.lt hF)
theorem MapS.below {w w' : World} {b n : Nat} {f : List UInt8 → Option Int} (h : MapS w b n f) (t : Below w.heap.size w w') : MapS w' b n f := h.block (t.block b h.lt)
theorem MapS.setCell {w : World} {b n p o : Nat} {v : Value} {f : List UInt8 → Option Int} (h : MapS w b n f) (hp : b ≠ p) : MapS (w.setCell ⟨p, o, none⟩ v) b n f := h.block (Below.heap_setCell _ _ _ _ hp)
theorem MapS.ext {w : World} {b n : Nat} {f g : List UInt8 → Option Int} (h : MapS w b n f) (e : ∀ z, f z = g z) : MapS w b n g := (funext e : f = g) ▸ h
theorem MapS.no_cell {w : World} {b n : Nat} {f : List UInt8 → Option Int} (h : MapS w b n f) (o : Nat) (v : Value) : w.cell? ⟨b, o, none⟩ ≠ some v := by
  obtain ⟨D, ⟨es, clock, h1, h2⟩, h3⟩ := h
  simp [World.cell?, h1]
theorem mapS_made (w : World) : MapS (w.alloc (.map #[] 0)) w.heap.size 0 (fun _ => none) :=
  ⟨.map [], World.ownsMap_made w _ _ _, rfl, fun z => ⟨rfl, fun v h => by cases h⟩⟩
theorem Turn.of_mapTurnedS {F : Nat → Prop} {w w' : World} {b : Nat} (h : w.mapTurned w' b) (hb : F b) : Turn F w w' := by
  have g := h.grown
  exact ⟨g.os, g.tape, g.output, g.size, fun k hk hn => g.block k hk (fun e => hn (by cases e; exact hb))⟩
theorem MapS.put_run {w : World} {b n : Nat} {f : List UInt8 → Option Int} (H : MapS w b n f) (hn : n < maxLen) (key : ByteArray) (val : Int) (hk : key.size ≤ maxLen) (hwv : (Lit.int .i64 val).wf = true) :
    ∃ w', (Instr.mapUpdate 59 (.map (some b)) (.string key) (.int .i64 val)).run Try.prog w = .ok () w' ∧ MapS w' b (if (f key.data.toList).isSome then n else n + 1) (sset f key.data.toList (some val)) ∧ w.mapTurned w' b := by
  obtain ⟨D, hown, hs, hf⟩ := H
  have hkey := keyOf_string_mk Try.underlying9 hk
  obtain ⟨w', hrun, r1, r2⟩ := hown.store lawMs Try.underlying59 hn hkey (plainElem_int (H := Unit) Try.underlying3 hwv)
  have hD := hown.isMap
  have hsz := Maps.size_put (k := .string key.data.toList) (hown.tidy lawMs) (.lit (.int .i64 val))
  rw [(hf key.data.toList).1, hs] at hsz
  refine ⟨w', hrun, ⟨_, hsz ▸ tight_maps r1, hsz, fun z => ?_⟩, r2⟩
  by_cases e : z = key.data.toList
  · subst e
    rw [sset_at]
    exact ⟨Maps.has_put_same (k := .string key.data.toList) hD trivial _, fun v h => by injection h with h; subst h; exact Maps.atKey_put_same (k := .string key.data.toList) hD trivial _ _⟩
  · have hne : (Lit.string z) ≠ .string key.data.toList := fun h => e (by injection h)
    rw [sset_ne _ _ _ _ e]
    exact ⟨by rw [Maps.has_put_other hne]; exact (hf z).1, fun v h => by rw [Maps.atKey_put_other hne]; exact (hf z).2 v h⟩
section
variable {o : Oper} {a : Act} {w : World} {K : Act → World → Prop} {Q : Exit → Act → World → Prop} {ops : Array Oper} {rest : List Oper}
theorem wp_look_ms (m x : Operand) (hop : o.op = Op.lookup 59 m x true) {b n : Nat} {f : List UInt8 → Option Int} (hm : a.eval m = .map (some b)) (H : MapS w b n f) (key : ByteArray) (hx : a.eval x = .string key) (hk : key.size ≤ maxLen)
    (hK : K (a.put o.dst (.tuple #[.int .i64 ((f key.data.toList).getD 0), .bool (f key.data.toList).isSome])) w) : o.wp Try.prog a w K Q := by
  obtain ⟨D, hown, hs, hf⟩ := H
  obtain ⟨v, ps, hrun, hv⟩ := hown.look_ok lawMs Try.underlying59 (zeroMs w) (plainElem_int (H := Unit) Try.underlying3 (by decide)) (keyOf_string_mk Try.underlying9 hk)
  obtain ⟨c, rfl, hc, hwc⟩ := plainElem_int_inv Try.underlying3 hv
  have hc := congrArg Prod.fst hc
  simp only at hc
  have e : c = (f key.data.toList).getD 0 := by
    cases hfk : f key.data.toList with
    | none =>
      have h1 := (hf key.data.toList).1
      rw [hfk] at h1
      rw [Maps.atKey_of_not_has (by simpa using h1)] at hc
      injection hc with h; injection h with _ h; simp [← h]
    | some u =>
      rw [(hf key.data.toList).2 u hfk] at hc
      injection hc with h; injection h with _ h; simp [← h]
  rw [(hf key.data.toList).1, e] at hrun
  unfold Oper.wp
  simp [execOp, hop, hm, hx, hrun, Result.andThen]
  exact hK
theorem wp_put_ms (m x v : Operand) (hop : o.op = Op.mapUpdate 59 m x v) {b n : Nat} {f : List UInt8 → Option Int} (hm : a.eval m = .map (some b)) (H : MapS w b n f) (hn : n < maxLen) (key : ByteArray) (val : Int) (hx : a.eval x = .string key) (hv : a.eval v = .int .i64 val) (hk : key.size ≤ maxLen) (hwv : (Lit.int .i64 val).wf = true)
    (hK : ∀ w', MapS w' b (if (f key.data.toList).isSome then n else n + 1) (sset f key.data.toList (some val)) → w.mapTurned w' b → K (a.put o.dst undef) w') : o.wp Try.prog a w K Q := by
  obtain ⟨w', hrun, r1, r2⟩ := H.put_run hn key val hk hwv
  unfold Oper.wp
  simp [execOp, hop, hm, hx, hv, hrun, Result.andThen]
  exact hK w' r1 r2
theorem wp_len_ms (m : Operand) (hop : o.op = Op.call { callee := Callee.builtin Builtin.len, args := #[m], argTypes := #[59] }) {b n : Nat} {f : List UInt8 → Option Int} (hm : a.eval m = .map (some b)) (H : MapS w b n f)
    (hK : K (a.put o.dst (.int .i64 n)) w) : o.wp Try.prog a w K Q := by
  obtain ⟨D, hown, hs, hf⟩ := H
  have hrun := hown.len Try.underlying59 o.type
  rw [hs] at hrun
  unfold Oper.wp
  simp [execOp, hop, resolve, invoke, builtin, hm, hrun, Result.andThen]
  exact hK
theorem wpList_look_ms (hg : o.guard = none) (m x : Operand) (hop : o.op = Op.lookup 59 m x true) {b n : Nat} {f : List UInt8 → Option Int} (hm : a.eval m = .map (some b)) (H : MapS w b n f) (key : ByteArray) (hx : a.eval x = .string key) (hk : key.size ≤ maxLen)
    (hK : wpList Try.prog ops Q rest (a.put o.dst (.tuple #[.int .i64 ((f key.data.toList).getD 0), .bool (f key.data.toList).isSome])) w) : wpList Try.prog ops Q (o :: rest) a w :=
  wpList_plain hg fun _ hK' => wp_look_ms m x hop hm H key hx hk (hK' _ _ hK)
theorem wpList_put_ms (hg : o.guard = none) (m x v : Operand) (hop : o.op = Op.mapUpdate 59 m x v) {b n : Nat} {f : List UInt8 → Option Int} (hm : a.eval m = .map (some b)) (H : MapS w b n f) (hn : n < maxLen) (key : ByteArray) (val : Int) (hx : a.eval x = .string key) (hv : a.eval v = .int .i64 val) (hk : key.size ≤ maxLen) (hwv : (Lit.int .i64 val).wf = true)
    (hK : ∀ w', MapS w' b (if (f key.data.toList).isSome then n else n + 1) (sset f key.data.toList (some val)) → w.mapTurned w' b → wpList Try.prog ops Q rest (a.put o.dst undef) w') : wpList Try.prog ops Q (o :: rest) a w :=
  wpList_plain hg fun _ hK' => wp_put_ms m x v hop hm H hn key val hx hv hk hwv fun w' h1 h2 => hK' _ _ (hK w' h1 h2)
theorem wpList_len_ms (hg : o.guard = none) (m : Operand) (hop : o.op = Op.call { callee := Callee.builtin Builtin.len, args := #[m], argTypes := #[59] }) {b n : Nat} {f : List UInt8 → Option Int} (hm : a.eval m = .map (some b)) (H : MapS w b n f)
    (hK : wpList Try.prog ops Q rest (a.put o.dst (.int .i64 n)) w) : wpList Try.prog ops Q (o :: rest) a w :=
  wpList_plain hg fun _ hK' => wp_len_ms m hop hm H (hK' _ _ hK)
end
end Go.Proofs.Ytlcmndbnknifhaa
/- two objects of a call's own, in blocks apart -/
namespace Go.Proofs.Ytlcmndbnknifhaa
open Go.RowKit
set_option linter.unusedVariables false
set_option maxRecDepth 20000
/-- an object in its blocks -/
structure ObjOk (Q : World → (Nat → Prop) → Prop) : Prop where
  turn : ∀ {w w' : World} {S F : Nat → Prop}, Q w S → Turn F w w' → (∀ k, S k → ¬ F k) → Q w' S
  lt : ∀ {w : World} {S : Nat → Prop}, Q w S → ∀ k, S k → k < w.heap.size
def PO (Q : World → (Nat → Prop) → Prop) (w : World) (S : Nat → Prop) (w' : World) : Prop := ∃ S', Q w' S' ∧ (∀ k, S' k → S k ∨ w.heap.size ≤ k) ∧ Turn S w w'
theorem PO.turn {Q : World → (Nat → Prop) → Prop} {w w' : World} {S : Nat → Prop} (h : PO Q w S w') : Turn S w w' := by obtain ⟨_, _, _, h⟩ := h; exact h
theorem ObjOk.below {Q : World → (Nat → Prop) → Prop} (o : ObjOk Q) {w w' : World} {S : Nat → Prop} (h : Q w S) (hb : Below w.heap.size w w') : Q w' S :=
  o.turn h (F := fun k => w.heap.size ≤ k) (Turn.of_below hb) (fun k hk hn => by have := o.lt h k hk; omega)
theorem PO.more {Q : World → (Nat → Prop) → Prop} (o : ObjOk Q) {w w' w'' : World} {S : Nat → Prop} (h : PO Q w S w') (hb : Below w'.heap.size w' w'') : PO Q w S w'' := by
  obtain ⟨T, q, s, t⟩ := h
  exact ⟨T, o.below q hb, s, t.trans (Turn.of_below hb)⟩
structure TwoO (Q R : World → (Nat → Prop) → Prop) (w0 w : World) (S1 S2 : Nat → Prop) : Prop where
  q : Q w S1
  r : R w S2
  d : ∀ k, S1 k → ¬ S2 k
  l1 : ∀ k, S1 k → w0.heap.size ≤ k
  l2 : ∀ k, S2 k → w0.heap.size ≤ k
  b : Below w0.heap.size w0 w
def TwoOE (Q R : World → (Nat → Prop) → Prop) (w0 w : World) : Prop := ∃ S1 S2, TwoO Q R w0 w S1 S2
theorem TwoO.more {Q R : World → (Nat → Prop) → Prop} (oq : ObjOk Q) (or : ObjOk R) {w0 w w' : World} {S1 S2 : Nat → Prop} (c : TwoO Q R w0 w S1 S2) (hb : Below w.heap.size w w') : TwoO Q R w0 w' S1 S2 :=
  ⟨oq.below c.q hb, or.below c.r hb, c.d, c.l1, c.l2, c.b.trans (hb.mono c.b.size)⟩
theorem TwoO.left {Q Q' R : World → (Nat → Prop) → Prop} (oq : ObjOk Q') (or : ObjOk R) {w0 w w' : World} {S1 S2 : Nat → Prop} (c : TwoO Q R w0 w S1 S2) (h : PO Q' w S1 w') : ∃ T, TwoO Q' R w0 w' T S2 ∧ (∀ k, T k → S1 k ∨ w.heap.size ≤ k) := by
  obtain ⟨T, q, s, t⟩ := h
  have hz := c.b.size
  refine ⟨T, ⟨q, or.turn c.r t (fun k h2 h1 => c.d k h1 h2), fun k h1 h2 => ?_, fun k hk => ?_, c.l2, c.b.trans (t.below c.l1 hz)⟩, s⟩
  · rcases s k h1 with x | x
    · exact c.d k x h2
    · have := or.lt c.r k h2; omega
  · rcases s k hk with x | x
    · exact c.l1 k x
    · omega
theorem TwoO.left1 {Q Q' R : World → (Nat → Prop) → Prop} (or : ObjOk R) {w0 w w' : World} {S1 S2 T : Nat → Prop} (c : TwoO Q R w0 w S1 S2) (q : Q' w' T) (s : ∀ k, T k → S1 k ∨ w.heap.size ≤ k) (t : Turn S1 w w') : TwoO Q' R w0 w' T S2 := by
  have hz := c.b.size
  refine ⟨q, or.turn c.r t (fun k h2 h1 => c.d k h1 h2), fun k h1 h2 => ?_, fun k hk => ?_, c.l2, c.b.trans (t.below c.l1 hz)⟩
  · rcases s k h1 with x | x
    · exact c.d k x h2
    · have := or.lt c.r k h2; omega
  · rcases s k hk with x | x
    · exact c.l1 k x
    · omega
theorem TwoO.swap {Q R : World → (Nat → Prop) → Prop} {w0 w : World} {S1 S2 : Nat → Prop} (c : TwoO Q R w0 w S1 S2) : TwoO R Q w0 w S2 S1 := ⟨c.r, c.q, fun k h1 h2 => c.d k h2 h1, c.l2, c.l1, c.b⟩
theorem TwoO.right {Q R R' : World → (Nat → Prop) → Prop} (oq : ObjOk Q) (or : ObjOk R') {w0 w w' : World} {S1 S2 : Nat → Prop} (c : TwoO Q R w0 w S1 S2) (h : PO R' w S2 w') : ∃ T, TwoO Q R' w0 w' S1 T ∧ (∀ k, T k → S2 k ∨ w.heap.size ≤ k) := by
  obtain ⟨T, h1, h2⟩ := c.swap.left or oq h
  exact ⟨T, h1.swap, h2⟩
theorem TwoO.right1 {Q R R' : World → (Nat → Prop) → Prop} (oq : ObjOk Q) {w0 w w' : World} {S1 S2 T : Nat → Prop} (c : TwoO Q R w0 w S1 S2) (q : R' w' T) (s : ∀ k, T k → S2 k ∨ w.heap.size ≤ k) (t : Turn S2 w w') : TwoO Q R' w0 w' S1 T := (c.swap.left1 oq q s t).swap
theorem TwoO.q2 {Q Q' R R' : World → (Nat → Prop) → Prop} (oq : ObjOk Q) {w0 w w' : World} {S1 S2 : Nat → Prop} (c : TwoO Q R w0 w S1 S2) (h : PO R' w S2 w') : Q w' S1 := oq.turn c.q h.turn c.d
theorem TwoO.r2 {Q Q' R : World → (Nat → Prop) → Prop} (or : ObjOk R) {w0 w w' : World} {S1 S2 : Nat → Prop} (c : TwoO Q R w0 w S1 S2) (h : PO Q' w S1 w') : R w' S2 := or.turn c.r h.turn (fun k h2 h1 => c.d k h1 h2)
theorem TwoO.qr {Q Q' R R' : World → (Nat → Prop) → Prop} (oq : ObjOk Q') (or : ObjOk R) (or' : ObjOk R') {w0 w w1 w2 : World} {S1 S2 : Nat → Prop} (c : TwoO Q R w0 w S1 S2) (h : PO Q' w S1 w1) (k : PO R' w1 S2 w2) : TwoOE Q' R' w0 w2 := by
  obtain ⟨T, c1, _⟩ := c.left oq or h
  obtain ⟨T2, c2, _⟩ := c1.right oq or' k
  exact ⟨T, T2, c2⟩
theorem TwoO.rq {Q Q' R R' : World → (Nat → Prop) → Prop} (oq : ObjOk Q) (oq' : ObjOk Q') (or' : ObjOk R') {w0 w w1 w2 : World} {S1 S2 : Nat → Prop} (c : TwoO Q R w0 w S1 S2) (h : PO R' w S2 w1) (k : PO Q' w1 S1 w2) : TwoOE Q' R' w0 w2 := by
  obtain ⟨T, c1, _⟩ := c.right oq or' h
  obtain ⟨T2, c2, _⟩ := c1.left oq' or' k
  exact ⟨T2, T, c2⟩
theorem cellT {S : Nat → Prop} {w w' : World} {p o : Nat} {v : Value} (h : w.cell? ⟨p, o, none⟩ = some v) (t : Turn S w w') (hn : ¬ S p) : w'.cell? ⟨p, o, none⟩ = some v := (t.cell (lt_of_cell h) hn).trans h
theorem turn_grown {w w' : World} {r : Option Nat} (h : w.grownBy w' r) : Turn (fun k => some k = r) w w' := ⟨h.os, h.tape, h.output, h.size, fun k hk hn => h.block k hk hn⟩
end Go.Proofs.Ytlcmndbnknifhaa
/- graph: nodes in memory; the builder -/
namespace Go.Proofs.Ytlcmndbnknifhaa
open Go.RowKit
set_option linter.unusedVariables false
set_option maxRecDepth 20000
/-- a node, and where its edges lie -/
structure NM where
  fin : Bool
  ea : Option Addr
  ec : Nat
  es : List EdP
def nm0 : NM := ⟨false, none, 0, []⟩
def nmV : List NM → List Value
  | [] => []
  | x :: l => .bool x.fin :: .slice x.ea x.es.length x.ec :: nmV l
theorem nmV_len : ∀ l : List NM, (nmV l).length = l.length * 2
  | [] => rfl
  | x :: l => by simp [nmV, nmV_len l]; omega
theorem nmV_app : ∀ k l : List NM, nmV (k ++ l) = nmV k ++ nmV l
  | [], l => rfl
  | x :: k, l => by simp [nmV, nmV_app k l]
theorem nmV_one : ∀ (l : List NM), ∀ u ∈ nmV l, u.oneCell' = true
  | [], u, h => by simp [nmV] at h
  | x :: l, u, h => by
    simp only [nmV, List.mem_cons] at h
    rcases h with h | h | h
    · subst h; rfl
    · subst h; rfl
    · exact nmV_one l u h
theorem nmV_at : ∀ (l : List NM) (i : Nat), i < l.length → (nmV l)[i * 2]? = some (.bool (l.getD i nm0).fin) ∧ (nmV l)[i * 2 + 1]? = some (.slice (l.getD i nm0).ea (l.getD i nm0).es.length (l.getD i nm0).ec)
  | [], i, h => by simp at h
  | x :: l, 0, _ => by simp [nmV]
  | x :: l, i + 1, h => by
    have ih := nmV_at l i (by simpa using h)
    have e1 : (i + 1) * 2 = i * 2 + 1 + 1 := by omega
    rw [e1]
    simpa [nmV] using ih
theorem nmV_set : ∀ (L : List NM) (i : Nat) (y : NM), i < L.length → ((nmV L).set (i * 2) (.bool y.fin)).set (i * 2 + 1) (.slice y.ea y.es.length y.ec) = nmV (L.set i y)
  | [], i, _, h => by simp at h
  | x :: l, 0, y, _ => by simp [nmV]
  | x :: l, i + 1, y, h => by
    have ih := nmV_set l i y (by simpa using h)
    have e0 : (i + 1) * 2 = i * 2 + 1 + 1 := by omega
    have e1 : (i + 1) * 2 + 1 = i * 2 + 1 + 1 + 1 := by omega
    rw [e1, e0]
    simp only [nmV, List.set_cons_succ]
    rw [ih]
theorem mem_nm {L : List NM} {i : Nat} (h : i < L.length) : L.getD i nm0 ∈ L := by rw [List.getD_eq_getElem?_getD, List.getElem?_eq_getElem h]; simp
theorem gowns_block {w w' : World} {base : Nat} {e : TypeId} {size : Nat} {a : Option Addr} {n c : Nat} {xs : List Value} (h : w.ownsRow base e size (.slice a n c) n xs) (hb : ∀ g, a = some ⟨g, 0, none⟩ → w'.heap[g]? = w.heap[g]?) : w'.ownsRow base e size (.slice a n c) n xs := by
  refine ⟨h.1, ?_⟩
  rcases h.2 with h1 | ⟨g, cap, cur, hv, hge, hh, r⟩
  · exact Or.inl h1
  · have hv' := hv
    simp only [Value.slice.injEq] at hv'
    exact Or.inr ⟨g, cap, cur, hv, hge, (hb g hv'.1).trans hh, r⟩
theorem gown_at {a : Option Addr} {n c k : Nat} {w : World} {xs : List Value} {e : TypeId} {base size : Nat} (h : w.ownsRow base e size (.slice a n c) n xs) (hk : some k = (Value.slice a n c).ownBlock) : a = some ⟨k, 0, none⟩ := by
  rcases Joins.ownsRow_forms h with ⟨e1, _⟩ | ⟨g, cap, e1⟩
  · injection e1 with e2; subst e2; cases hk
  · injection e1 with e2; subst e2; injection hk with hk; rw [hk]
theorem gheap_far {w : World} {b o k : Nat} {v : Value} (h : k ≠ b) : (w.setCell ⟨b, o, none⟩ v).heap[k]? = w.heap[k]? := Below.heap_setCell _ _ _ _ h
theorem holdsEd_blocks {w w' : World} {a : Option Addr} {n : Nat} {ks : List EdP} (h : HoldsEd w a n ks) (hb : ∀ b o, a = some ⟨b, o, none⟩ → w'.heap[b]? = w.heap[b]?) : HoldsEd w' a n ks := by
  refine ⟨h.1, fun h0 => ?_⟩
  obtain ⟨b, o, ha, hc⟩ := h.2 h0
  refine ⟨b, o, ha, fun i hi => ?_⟩
  exact ⟨(World.cell?_of_block (w := w) (hb b o ha)).trans (hc i hi).1, (World.cell?_of_block (w := w) (hb b o ha)).trans (hc i hi).2⟩
/-- a node's edges lie in a block of the object's -/
def EdIn (w : World) (S : Nat → Prop) (g : Nat) (na : Option Addr) (x : NM) : Prop := HoldsEd w x.ea x.es.length x.es ∧ (x.ea = none → x.es.length = 0 ∧ x.ec = 0) ∧ x.es.length ≤ x.ec ∧ ∀ fb fo, x.ea = some ⟨fb, fo, none⟩ → S fb ∧ fb ≠ g ∧ na ≠ some ⟨fb, 0, none⟩
/-- block g is a graph of these nodes -/
structure GMid (w : World) (g : Nat) (na : Option Addr) (nc : Nat) (NL : List NM) (S : Nat → Prop) : Prop where
  c : w.cell? ⟨g, 0, none⟩ = some (.slice na NL.length nc)
  f : ∀ i, w.frozen? ⟨g, i, none⟩ = false
  o : w.ownsRow 0 92 2 (.slice na NL.length nc) NL.length (nmV NL)
  e : ∀ x ∈ NL, EdIn w S g na x
  sg : S g
  sn : ∀ q, na = some ⟨q, 0, none⟩ → S q ∧ q ≠ g
  lt : ∀ k, S k → k < w.heap.size
theorem GMid.blocks {w w' : World} {g : Nat} {na : Option Addr} {nc : Nat} {NL : List NM} {S : Nat → Prop} (h : GMid w g na nc NL S) (hs : w.heap.size ≤ w'.heap.size) (hb : ∀ k, S k → w'.heap[k]? = w.heap[k]?) : GMid w' g na nc NL S := by
  have eb := hb g h.sg
  exact ⟨(World.cell?_of_block (w := w) eb).trans h.c, fun i => (World.frozen?_of_block (w := w) eb).trans (h.f i), gowns_block h.o (fun q hq => hb q (h.sn q hq).1), fun x hx => ⟨holdsEd_blocks (h.e x hx).1 (fun fb fo e => hb fb ((h.e x hx).2.2.2 fb fo e).1), (h.e x hx).2⟩, h.sg, h.sn, fun k hk => Nat.lt_of_lt_of_le (h.lt k hk) hs⟩
/-- the blocks but some that lie in S and are none of the nodes' -/
theorem GMid.but {w w' : World} {g : Nat} {na : Option Addr} {nc : Nat} {NL : List NM} {S : Nat → Prop} {m : Nat} (h : GMid w g na nc NL S) (t : Turn (fun k => k = m) w w') (h1 : g ≠ m) (h2 : ∀ q, na = some ⟨q, 0, none⟩ → q ≠ m) (h3 : ∀ x ∈ NL, ∀ fb fo, x.ea = some ⟨fb, fo, none⟩ → fb ≠ m) : GMid w' g na nc NL S := by
  have eb := t.block g (h.lt g h.sg) h1
  exact ⟨(World.cell?_of_block (w := w) eb).trans h.c, fun i => (World.frozen?_of_block (w := w) eb).trans (h.f i), gowns_block h.o (fun q hq => t.block q (h.lt q (h.sn q hq).1) (h2 q hq)), fun x hx => ⟨holdsEd_blocks (h.e x hx).1 (fun fb fo e => t.block fb (h.lt fb ((h.e x hx).2.2.2 fb fo e).1) (h3 x hx fb fo e)), (h.e x hx).2⟩, h.sg, h.sn, fun k hk => Nat.lt_of_lt_of_le (h.lt k hk) t.size⟩
theorem GMid.at {w : World} {g : Nat} {na : Option Addr} {nc : Nat} {NL : List NM} {S : Nat → Prop} (h : GMid w g na nc NL S) {i : Nat} (hi : i < NL.length) : ∃ q, na = some ⟨q, 0, none⟩ ∧ w.cell? ⟨q, i * 2, none⟩ = some (.bool (NL.getD i nm0).fin) ∧ w.cell? ⟨q, i * 2 + 1, none⟩ = some (.slice (NL.getD i nm0).ea (NL.getD i nm0).es.length (NL.getD i nm0).ec) := by
  have o := h.o
  obtain ⟨q, cap', hv⟩ := Joins.ownsRow_form o (by omega)
  simp only [Value.slice.injEq] at hv
  obtain ⟨hv, -, -⟩ := hv
  subst hv
  obtain ⟨v0, v1⟩ := nmV_at NL i hi
  exact ⟨q, rfl, (o.cellAt (i * 2) (by omega)).trans v0, (o.cellAt (i * 2 + 1) (by omega)).trans v1⟩
/-- one node more -/
theorem GMid.grow {w w6 : World} {g q cap : Nat} {na : Option Addr} {nc : Nat} {NL : List NM} {S : Nat → Prop} {o : Obj} (h : GMid w g na nc NL S)
    (own : w6.ownsRow 0 92 2 (.slice (some ⟨q, 0, none⟩) (NL.length + 1) cap) (NL.length + 1) (nmV NL ++ [.bool false, .slice none 0 0]))
    (hg : (w.alloc o).grownBy w6 (Value.slice na NL.length nc).ownBlock) (hat : (Value.slice na NL.length nc).ownBlock = some q ∨ q = (w.alloc o).heap.size) (hlt : q < w6.heap.size) :
    GMid (w6.setCell ⟨g, 0, none⟩ (.slice (some ⟨q, 0, none⟩) (NL.length + 1) cap)) g (some ⟨q, 0, none⟩) cap (NL ++ [nm0]) (fun k => S k ∨ k = q) ∧ Turn (fun k => k = g ∨ na = some ⟨k, 0, none⟩) w (w6.setCell ⟨g, 0, none⟩ (.slice (some ⟨q, 0, none⟩) (NL.length + 1) cap)) ∧ (na = some ⟨q, 0, none⟩ ∨ w.heap.size ≤ q) := by
  have hza : (w.alloc o).heap.size = w.heap.size + 1 := by simp
  have hz6 := hg.size
  have hlb := h.lt g h.sg
  have old : ∀ k, k < w.heap.size → (∀ r, na = some ⟨r, 0, none⟩ → k ≠ r) → w6.heap[k]? = w.heap[k]? := fun k hk hn =>
    (hg.block k (by omega) (fun e => hn k (gown_at h.o e) rfl)).trans (Below.heap_alloc _ _ _ (by omega))
  have ob := old g hlb (fun r e hq => (h.sn r e).2 hq.symm)
  have gq : q ≠ g := by
    rcases hat with e | e
    · exact (h.sn q (gown_at h.o e.symm)).2
    · omega
  have sz : (w6.setCell ⟨g, 0, none⟩ (.slice (some ⟨q, 0, none⟩) (NL.length + 1) cap)).heap.size = w6.heap.size := by simp [World.setCell]
  have hlen : (NL ++ [nm0]).length = NL.length + 1 := by simp
  have hkv : nmV (NL ++ [nm0]) = nmV NL ++ [.bool false, .slice none 0 0] := by rw [nmV_app]; rfl
  have hwhere : na = some ⟨q, 0, none⟩ ∨ w.heap.size ≤ q := by
    rcases hat with e | e
    · exact Or.inl (gown_at h.o e.symm)
    · exact Or.inr (by omega)
  refine ⟨⟨?_, fun i => ?_, ?_, fun x hx => ?_, Or.inl h.sg, fun r hr => ?_, fun k hk => ?_⟩, ?_, hwhere⟩
  · rw [hlen]; exact cset_at ((World.cell?_of_block (w := w) ob).trans h.c)
  · rw [fset_any, World.frozen?_of_block (w := w) ob]; exact h.f i
  · rw [hlen, hkv]
    exact gowns_block own (fun r hr => by injection hr with hr; injection hr with hr; subst hr; exact gheap_far gq)
  · rcases List.mem_append.1 hx with hx | hx
    · obtain ⟨y1, y2, y3, y4⟩ := h.e x hx
      refine ⟨holdsEd_blocks y1 (fun fb fo e => ?_), y2, y3, fun fb fo e => ⟨Or.inl (y4 fb fo e).1, (y4 fb fo e).2.1, fun e2 => ?_⟩⟩
      · rw [gheap_far (y4 fb fo e).2.1]
        exact old fb (h.lt fb (y4 fb fo e).1) (fun r hr e2 => (y4 fb fo e).2.2 (by rw [hr, e2]))
      · injection e2 with e2; injection e2 with e2
        rcases hat with e3 | e3
        · exact (y4 fb fo e).2.2 (by rw [← e2]; exact gown_at h.o e3.symm)
        · have := h.lt fb (y4 fb fo e).1; omega
    · simp only [List.mem_singleton] at hx
      subst hx
      exact ⟨HoldsEd.nil _ _, fun _ => ⟨rfl, rfl⟩, Nat.le_refl _, fun fb fo e => by cases e⟩
  · injection hr with hr; injection hr with hr; subst hr
    exact ⟨Or.inr rfl, gq⟩
  · rw [sz]
    rcases hk with hk | hk
    · have := h.lt k hk; omega
    · rw [hk]; exact hlt
  · refine Turn.trans ?_ (Turn.setCell (Or.inl rfl))
    exact ⟨hg.os, hg.tape, hg.output, by omega, fun k hk hn => old k hk (fun r e h2 => hn (Or.inr (by rw [h2]; exact e)))⟩
/-- a node is laid in its place -/
theorem GMid.put {w : World} {g q nc : Nat} {NL : List NM} {S : Nat → Prop} (h : GMid w g (some ⟨q, 0, none⟩) nc NL S) (i : Nat) (hi : i < NL.length) (y : NM) (h1 : HoldsEd w y.ea y.es.length y.es) (h2 : y.ea = none → y.es.length = 0 ∧ y.ec = 0) (h3 : y.es.length ≤ y.ec) (h4 : ∀ fb fo, y.ea = some ⟨fb, fo, none⟩ → ¬ S fb ∧ fb < w.heap.size) :
    GMid ((w.setCell ⟨q, i * 2, none⟩ (.bool y.fin)).setCell ⟨q, i * 2 + 1, none⟩ (.slice y.ea y.es.length y.ec)) g (some ⟨q, 0, none⟩) nc (NL.set i y) (fun k => S k ∨ ∃ fo, y.ea = some ⟨k, fo, none⟩) ∧ Turn (fun k => k = q) w ((w.setCell ⟨q, i * 2, none⟩ (.bool y.fin)).setCell ⟨q, i * 2 + 1, none⟩ (.slice y.ea y.es.length y.ec)) := by
  obtain ⟨s1, s2⟩ := h.sn q rfl
  have far : ∀ k, k ≠ q → ((w.setCell ⟨q, i * 2, none⟩ (.bool y.fin)).setCell ⟨q, i * 2 + 1, none⟩ (.slice y.ea y.es.length y.ec)).heap[k]? = w.heap[k]? := fun k hk => (gheap_far hk).trans (gheap_far hk)
  have sz : ((w.setCell ⟨q, i * 2, none⟩ (.bool y.fin)).setCell ⟨q, i * 2 + 1, none⟩ (.slice y.ea y.es.length y.ec)).heap.size = w.heap.size := by simp [World.setCell]
  have own := ((h.o.stored (i * 2) (.bool y.fin)).1.stored (i * 2 + 1) (.slice y.ea y.es.length y.ec)).1
  rw [nmV_set NL i y hi] at own
  have og := far g (fun e => s2 e.symm)
  have ne2 : ∀ fb fo, y.ea = some ⟨fb, fo, none⟩ → fb ≠ q := fun fb fo e e2 => (h4 fb fo e).1 (by rw [e2]; exact s1)
  refine ⟨⟨?_, fun k => ?_, ?_, fun x hx => ?_, Or.inl h.sg, fun r hr => ⟨Or.inl (h.sn r hr).1, (h.sn r hr).2⟩, fun k hk => ?_⟩, ?_⟩
  · rw [List.length_set]; exact (World.cell?_of_block (w := w) og).trans h.c
  · rw [World.frozen?_of_block (w := w) og]; exact h.f k
  · rw [List.length_set]; exact own
  · rcases List.mem_or_eq_of_mem_set hx with hx | rfl
    · obtain ⟨y1, y2, y3, y4⟩ := h.e x hx
      exact ⟨holdsEd_blocks y1 (fun fb fo e => far fb (fun e2 => (y4 fb fo e).2.2 (by rw [e2]))), y2, y3, fun fb fo e => ⟨Or.inl (y4 fb fo e).1, (y4 fb fo e).2⟩⟩
    · refine ⟨holdsEd_blocks h1 (fun fb fo e => far fb (ne2 fb fo e)), h2, h3, fun fb fo e => ⟨Or.inr ⟨fo, e⟩, fun e2 => (h4 fb fo e).1 (by rw [e2]; exact h.sg), fun e2 => ?_⟩⟩
      injection e2 with e2; injection e2 with e2
      exact ne2 fb fo e e2.symm
  · rw [sz]
    rcases hk with hk | ⟨fo, hk⟩
    · exact h.lt k hk
    · exact (h4 k fo hk).2
  · exact (Turn.setCell (F := fun k => k = q) rfl).trans (Turn.setCell rfl)
def nmP (x : NM) : Bool × List EdP := (x.fin, x.es)
def gnP (x : GN) : Bool × List EdP := (x.final, x.edges)
def GAt (g : Nat) (st : List GN) (w : World) (S : Nat → Prop) : Prop := ∃ na nc NL, GMid w g na nc NL S ∧ NL.map nmP = st.map gnP
theorem gAt_ok (g : Nat) (st : List GN) : ObjOk (GAt g st) :=
  ⟨fun h t hF => by obtain ⟨na, nc, NL, m, e⟩ := h; exact ⟨na, nc, NL, m.blocks t.size (fun k hk => t.block k (m.lt k hk) (hF k hk)), e⟩, fun h => by obtain ⟨na, nc, NL, m, e⟩ := h; exact m.lt⟩
def ointG : Option Nat → Option Int
  | some i => some (i : Int)
  | none => none
/-- the builder in bb, its graph in g, its map in m -/
structure BMid (bb g m : Nat) (na : Option Addr) (nc : Nat) (NL : List NM) (st : List GN) (w : World) (S : Nat → Prop) : Prop where
  G : GMid w g na nc NL S
  eq : NL.map nmP = st.map gnP
  c0 : w.cell? ⟨bb, 0, none⟩ = some (.pointer (some ⟨g, 0, none⟩))
  c1 : w.cell? ⟨bb, 1, none⟩ = some (.map (some m))
  M : ∃ f, MapS w m st.length f ∧ ∀ l, (∀ t ∈ l, 0 ≤ lenS t) → f (nameL l) = ointG (findG st l)
  sb : S bb
  sm : S m
  n1 : g ≠ m
  n2 : bb ≠ m
  n3 : bb ≠ g
  n4 : ∀ q, na = some ⟨q, 0, none⟩ → q ≠ m ∧ q ≠ bb
  n5 : ∀ x ∈ NL, ∀ fb fo, x.ea = some ⟨fb, fo, none⟩ → fb ≠ m ∧ fb ≠ bb
def QB (bb g m : Nat) (st : List GN) (w : World) (S : Nat → Prop) : Prop := ∃ na nc NL, BMid bb g m na nc NL st w S
theorem BMid.blocks {bb g m : Nat} {na : Option Addr} {nc : Nat} {NL : List NM} {st : List GN} {w w' : World} {S : Nat → Prop} (h : BMid bb g m na nc NL st w S) (hs : w.heap.size ≤ w'.heap.size) (hb : ∀ k, S k → w'.heap[k]? = w.heap[k]?) : BMid bb g m na nc NL st w' S := by
  obtain ⟨f, h1, h2⟩ := h.M
  have eb := hb bb h.sb
  exact ⟨h.G.blocks hs hb, h.eq, (World.cell?_of_block (w := w) eb).trans h.c0, (World.cell?_of_block (w := w) eb).trans h.c1, ⟨f, h1.block (hb m h.sm), h2⟩, h.sb, h.sm, h.n1, h.n2, h.n3, h.n4, h.n5⟩
theorem qb_ok (bb g m : Nat) (st : List GN) : ObjOk (QB bb g m st) :=
  ⟨fun h t hF => by obtain ⟨na, nc, NL, x⟩ := h; exact ⟨na, nc, NL, x.blocks t.size (fun k hk => t.block k (x.G.lt k hk) (hF k hk))⟩, fun h => by obtain ⟨na, nc, NL, x⟩ := h; exact x.G.lt⟩
theorem find_snoc {st : List GN} {s l : List Tx} {g : GN} (hg : g.rests = s) : findG (st ++ [g]) l = match findG st l with | some i => some i | none => if s = l then some st.length else none := by
  subst hg
  unfold findG
  rw [List.findIdx?_append]
  cases h : List.findIdx? (fun g => decide (g.rests = l)) st with
  | some i => simp
  | none =>
    by_cases e : g.rests = l
    · simp [e]
    · simp [e]
/-- behind a name more, and a node more -/
theorem BMid.fresh {bb g m : Nat} {na : Option Addr} {nc : Nat} {NL : List NM} {st : List GN} {w w2 w3 : World} {S : Nat → Prop} {q cap : Nat} {s : List Tx} {o : Obj} {fm : List UInt8 → Option Int} (h : BMid bb g m na nc NL st w S) (ms : MapS w2 m (st.length + 1) (sset fm (nameL s) (some (st.length : Int)))) (t2 : Turn (fun k => k = m) w w2) (hF : ∀ l, (∀ t ∈ l, 0 ≤ lenS t) → fm (nameL l) = ointG (findG st l)) (hs : ∀ t ∈ s, 0 ≤ lenS t) (hf : findG st s = none)
    (own : w3.ownsRow 0 92 2 (.slice (some ⟨q, 0, none⟩) (NL.length + 1) cap) (NL.length + 1) (nmV NL ++ [.bool false, .slice none 0 0]))
    (hg : (w2.alloc o).grownBy w3 (Value.slice na NL.length nc).ownBlock) (hat : (Value.slice na NL.length nc).ownBlock = some q ∨ q = (w2.alloc o).heap.size) (hlt : q < w3.heap.size) :
    ∃ S', BMid bb g m (some ⟨q, 0, none⟩) cap (NL ++ [nm0]) (st ++ [⟨s, false, []⟩]) (w3.setCell ⟨g, 0, none⟩ (.slice (some ⟨q, 0, none⟩) (NL.length + 1) cap)) S' ∧ (∀ k, S' k → S k ∨ w.heap.size ≤ k) ∧ Turn S w (w3.setCell ⟨g, 0, none⟩ (.slice (some ⟨q, 0, none⟩) (NL.length + 1) cap)) := by
  have G2 := h.G.but t2 h.n1 (fun r hr => (h.n4 r hr).1) (fun x hx fb fo e => (h.n5 x hx fb fo e).1)
  obtain ⟨G3, t3, hw⟩ := G2.grow own hg hat hlt
  have hz := t2.size
  have lb := h.G.lt bb h.sb
  have lm := h.G.lt m h.sm
  have bn : bb ≠ m := h.n2
  have qm : q ≠ m ∧ q ≠ bb := by
    rcases hw with e | e
    · exact h.n4 q e
    · exact ⟨by omega, by omega⟩
  have nbF : ¬ (bb = g ∨ na = some ⟨bb, 0, none⟩) := fun e => by
    rcases e with e | e
    · exact h.n3 e
    · exact (h.n4 bb e).2 rfl
  have nmF : ¬ (m = g ∨ na = some ⟨m, 0, none⟩) := fun e => by
    rcases e with e | e
    · exact h.n1 e.symm
    · exact (h.n4 m e).1 rfl
  refine ⟨_, ⟨G3, ?_, ?_, ?_, ⟨sset fm (nameL s) (some (st.length : Int)), ?_, fun l hl => ?_⟩, Or.inl h.sb, Or.inl h.sm, h.n1, h.n2, h.n3, fun r hr => ?_, fun x hx fb fo e => ?_⟩, fun k hk => ?_, ?_⟩
  · rw [List.map_append, List.map_append, h.eq]; rfl
  · rw [t3.cell (by omega) nbF, t2.cell lb bn]; exact h.c0
  · rw [t3.cell (by omega) nbF, t2.cell lb bn]; exact h.c1
  · rw [List.length_append, List.length_singleton]
    exact ms.turn t3 nmF
  · rw [find_snoc rfl]
    by_cases e : l = s
    · subst e
      rw [sset_at, hf]; simp [ointG]
    · rw [sset_ne _ _ _ _ (fun e2 => e (nameL_inj l s hl hs e2)), hF l hl]
      cases findG st l with
      | some i => rfl
      | none => simp [ointG, Ne.symm e]
  · injection hr with hr; injection hr with hr; subst hr
    exact qm
  · rcases List.mem_append.1 hx with hx | hx
    · exact h.n5 x hx fb fo e
    · simp only [List.mem_singleton] at hx
      subst hx; cases e
  · rcases hk with hk | hk
    · exact Or.inl hk
    · rcases hw with e | e
      · exact Or.inl (by rw [hk]; exact (h.G.sn q e).1)
      · exact Or.inr (by omega)
  · refine (t2.mono (fun k hk => by rw [hk]; exact h.sm)).trans (t3.mono (fun k hk => ?_))
    rcases hk with e | e
    · rw [e]; exact h.G.sg
    · exact (h.G.sn k e).1
end Go.Proofs.Ytlcmndbnknifhaa
/- graph: reach -/
namespace Go.Proofs.Ytlcmndbnknifhaa
open Go.RowKit
set_option linter.unusedVariables false
set_option maxRecDepth 20000
theorem own_blockG {w : World} {base fb fo : Nat} {e : TypeId} {size : Nat} {a : Option Addr} {n c : Nat} {xs : List Value} (h : w.ownsRow base e size (.slice a n c) n xs) (ha : a = some ⟨fb, fo, none⟩) : base ≤ fb ∧ fb < w.heap.size := by
  rcases Joins.ownsRow_forms h with ⟨e1, _⟩ | ⟨g, cap, e1⟩
  · injection e1 with e2; rw [ha] at e2; cases e2
  · injection e1 with e2; rw [ha] at e2; injection e2 with e2; injection e2 with e2 e3; subst e2; subst e3; rw [ha] at h; exact h.lt _ rfl
/-- what the loop goes by -/
structure RL (bb g m : Nat) (W : World) (S : Nat → Prop) (p : Nat) (fin : Bool) (st1 : List GN) (ea : Option Addr) (ec : Nat) (es : List EdP) (sa : Option Addr) (l : List Tx) (S1 : Nat → Prop) (w : World) : Prop where
  q : QB bb g m st1 w S1
  sub : ∀ k, S1 k → S k ∨ W.heap.size ≤ k
  t : Turn S W w
  np : ¬ S1 p
  pw : W.heap.size ≤ p
  c0 : w.cell? ⟨p, 0, none⟩ = some (.bool fin)
  c1 : w.cell? ⟨p, 1, none⟩ = some (.slice ea es.length ec)
  fr : ∀ i, w.frozen? ⟨p, i, none⟩ = false
  o : w.ownsRow W.heap.size 67 2 (.slice ea es.length ec) es.length (edsV es)
  ne : ∀ k, ea = some ⟨k, 0, none⟩ → ¬ S1 k ∧ k ≠ p
  hl : HoldsT w sa l.length l
  la : 0 < l.length → ∀ fb fo, sa = some ⟨fb, fo, none⟩ → ¬ S fb ∧ fb < W.heap.size
theorem RL.qlt {bb g m : Nat} {W : World} {S : Nat → Prop} {p : Nat} {fin : Bool} {st1 : List GN} {ea : Option Addr} {ec : Nat} {es : List EdP} {sa : Option Addr} {l : List Tx} {S1 : Nat → Prop} {w : World} (h : RL bb g m W S p fin st1 ea ec es sa l S1 w) : ∀ k, S1 k → k < w.heap.size := (qb_ok bb g m st1).lt h.q
theorem RL.la1 {bb g m : Nat} {W : World} {S : Nat → Prop} {p : Nat} {fin : Bool} {st1 : List GN} {ea : Option Addr} {ec : Nat} {es : List EdP} {sa : Option Addr} {l : List Tx} {S1 : Nat → Prop} {w : World} (h : RL bb g m W S p fin st1 ea ec es sa l S1 w) : 0 < l.length → ∀ fb fo, sa = some ⟨fb, fo, none⟩ → ¬ S1 fb := fun h0 fb fo e hk => by
  have h1 := h.la h0 fb fo e
  rcases h.sub fb hk with x | x
  · exact h1.1 x
  · omega
theorem holdsT_turn {w w' : World} {a : Option Addr} {n : Nat} {ts : List Tx} {F : Nat → Prop} (h : HoldsT w a n ts) (t : Turn F w w') (hF : 0 < n → ∀ fb fo, a = some ⟨fb, fo, none⟩ → ¬ F fb) : HoldsT w' a n ts := by
  rcases Nat.eq_zero_or_pos n with h0 | h0
  · subst h0
    have hl := h.len
    have : ts = [] := List.eq_nil_of_length_eq_zero hl
    subst this
    exact HoldsT.nil _ _
  · obtain ⟨b, o, rfl, hc⟩ := h.at h0
    exact HoldsT.of h.len (fun i hi => (t.cell (lt_of_cell (hc i hi)) (hF h0 b o rfl)).trans (hc i hi))
theorem RL.more {bb g m : Nat} {W : World} {S : Nat → Prop} {p : Nat} {fin : Bool} {st1 : List GN} {ea : Option Addr} {ec : Nat} {es : List EdP} {sa : Option Addr} {l : List Tx} {S1 : Nat → Prop} {w w' : World} (h : RL bb g m W S p fin st1 ea ec es sa l S1 w) (hb : Below w.heap.size w w') : RL bb g m W S p fin st1 ea ec es sa l S1 w' := by
  have hp := lt_of_cell h.c0
  exact ⟨(qb_ok bb g m st1).below h.q hb, h.sub, h.t.trans (Turn.of_below hb), h.np, h.pw, (hb.cell (p := ⟨p, 0, none⟩) hp).trans h.c0, (hb.cell (p := ⟨p, 1, none⟩) hp).trans h.c1, fun i => (hb.frozen (p := ⟨p, i, none⟩) hp).trans (h.fr i), owns_below h.o hb, h.ne, h.hl.below hb, h.la⟩
/-- behind a call that turns the builder's blocks alone -/
theorem RL.step {bb g m : Nat} {W : World} {S : Nat → Prop} {p : Nat} {fin : Bool} {st1 st2 : List GN} {ea : Option Addr} {ec : Nat} {es : List EdP} {sa : Option Addr} {l : List Tx} {S1 : Nat → Prop} {w w' : World} (h : RL bb g m W S p fin st1 ea ec es sa l S1 w) (k : PO (QB bb g m st2) w S1 w') : ∃ S2, RL bb g m W S p fin st2 ea ec es sa l S2 w' := by
  obtain ⟨S2, q2, s2, t2⟩ := k
  have hp := lt_of_cell h.c0
  have hz := h.t.size
  refine ⟨S2, q2, fun k hk => ?_, h.t.trans' t2 (fun i hi => h.sub i hi), fun hk => ?_, h.pw, (t2.cell hp h.np).trans h.c0, (t2.cell hp h.np).trans h.c1, fun i => (t2.frozen hp h.np).trans (h.fr i), gowns_block h.o (fun r hr => t2.block r (h.o.lt r (by rw [hr]; rfl)).2 (h.ne r hr).1), fun k hk => ⟨fun hk2 => ?_, (h.ne k hk).2⟩, holdsT_turn h.hl t2 h.la1, h.la⟩
  · rcases s2 k hk with x | x
    · exact h.sub k x
    · exact Or.inr (by omega)
  · rcases s2 p hk with x | x
    · exact h.np x
    · omega
  · rcases s2 k hk2 with x | x
    · exact (h.ne k hk).1 x
    · have := (h.o.lt k (by rw [hk]; rfl)).2; omega
/-- behind an edge more -/
theorem RL.edge {bb g m : Nat} {W : World} {S : Nat → Prop} {p q cap : Nat} {fin : Bool} {st1 : List GN} {ea : Option Addr} {ec : Nat} {es : List EdP} {sa : Option Addr} {l : List Tx} {S1 : Nat → Prop} {w w6 : World} {o : Obj} {x : EdP} (h : RL bb g m W S p fin st1 ea ec es sa l S1 w)
    (own : w6.ownsRow W.heap.size 67 2 (.slice (some ⟨q, 0, none⟩) (es.length + 1) cap) (es.length + 1) (edsV es ++ cellsEd x))
    (hg : (w.alloc o).grownBy w6 (Value.slice ea es.length ec).ownBlock) (hat : (Value.slice ea es.length ec).ownBlock = some q ∨ q = (w.alloc o).heap.size) :
    RL bb g m W S p fin st1 (some ⟨q, 0, none⟩) cap (es ++ [x]) sa l S1 (w6.setCell ⟨p, 1, none⟩ (.slice (some ⟨q, 0, none⟩) (es.length + 1) cap)) := by
  have hza : (w.alloc o).heap.size = w.heap.size + 1 := by simp
  have hz6 := hg.size
  have hp := lt_of_cell h.c0
  have hz := h.t.size
  have old : ∀ k, k < w.heap.size → (∀ r, ea = some ⟨r, 0, none⟩ → k ≠ r) → w6.heap[k]? = w.heap[k]? := fun k hk hn =>
    (hg.block k (by omega) (fun e => hn k (gown_at h.o e) rfl)).trans (Below.heap_alloc _ _ _ (by omega))
  have op := old p hp (fun r e hq => (h.ne r e).2 hq.symm)
  have qw : W.heap.size ≤ q := (own.lt q rfl).1
  have qp : q ≠ p := by
    rcases hat with e | e
    · exact (h.ne q (gown_at h.o e.symm)).2
    · omega
  have qS : ¬ S1 q := by
    rcases hat with e | e
    · exact (h.ne q (gown_at h.o e.symm)).1
    · intro hk; have := h.qlt q hk; omega
  have t1 : Turn (fun k => ea = some ⟨k, 0, none⟩) w w6 := ⟨hg.os, hg.tape, hg.output, by omega, fun k hk hn => old k hk (fun r e e2 => hn (by rw [e2]; exact e))⟩
  have t2 : Turn (fun k => ea = some ⟨k, 0, none⟩ ∨ k = p) w (w6.setCell ⟨p, 1, none⟩ (.slice (some ⟨q, 0, none⟩) (es.length + 1) cap)) := (t1.mono fun k hk => Or.inl hk).trans (Turn.setCell (Or.inr rfl))
  have hS : ∀ k, S1 k → ¬ (ea = some ⟨k, 0, none⟩ ∨ k = p) := fun k hk e => by
    rcases e with e | e
    · exact (h.ne k e).1 hk
    · exact h.np (by rw [← e]; exact hk)
  refine ⟨(qb_ok bb g m st1).turn h.q t2 hS, h.sub, h.t.trans' t2 (fun k hk => Or.inr ?_), h.np, h.pw, ?_, ?_, fun i => ?_, ?_, fun k hk => ?_, holdsT_turn h.hl t2 (fun h0 fb fo e e2 => ?_), h.la⟩
  · rcases hk with e | e
    · exact (h.o.lt k (by rw [e]; rfl)).1
    · rw [e]; exact h.pw
  · rw [cset_ne (by omega)]; exact (World.cell?_of_block (w := w) op).trans h.c0
  · rw [List.length_append, List.length_singleton]; exact cset_at ((World.cell?_of_block (w := w) op).trans h.c1)
  · rw [fset_any]; exact (World.frozen?_of_block (w := w) op).trans (h.fr i)
  · rw [List.length_append, List.length_singleton, edsV_snoc]
    exact gowns_block own (fun r hr => by injection hr with hr; injection hr with hr; subst hr; exact gheap_far qp)
  · injection hk with hk; injection hk with hk; subst hk
    exact ⟨qS, qp⟩
  · have h1 := h.la h0 fb fo e
    rcases e2 with e2 | e2
    · have := (h.o.lt fb (by rw [e2]; rfl)).1; omega
    · have := h.pw; omega
/-- behind the flag, and another list -/
theorem RL.flag {bb g m : Nat} {W : World} {S : Nat → Prop} {p : Nat} {fin b : Bool} {st1 : List GN} {ea : Option Addr} {ec : Nat} {es : List EdP} {sa sa' : Option Addr} {l l' : List Tx} {S1 : Nat → Prop} {w : World} (h : RL bb g m W S p fin st1 ea ec es sa l S1 w) (hl : HoldsT w sa' l'.length l') (hla : 0 < l'.length → ∀ fb fo, sa' = some ⟨fb, fo, none⟩ → ¬ S fb ∧ fb < W.heap.size) :
    RL bb g m W S p b st1 ea ec es sa' l' S1 (w.setCell ⟨p, 0, none⟩ (.bool b)) := by
  have t2 : Turn (fun k => k = p) w (w.setCell ⟨p, 0, none⟩ (.bool b)) := Turn.setCell rfl
  have hpw := h.pw
  exact ⟨(qb_ok bb g m st1).turn h.q t2 (fun k hk e => h.np (by rw [← e]; exact hk)), h.sub, h.t.trans' t2 (fun k hk => Or.inr (by rw [hk]; exact h.pw)), h.np, h.pw, cset_at h.c0, (cset_ne (by omega)).trans h.c1, fun i => fset_any.trans (h.fr i), gowns_block h.o (fun r hr => gheap_far (h.ne r hr).2), h.ne, holdsT_turn hl t2 (fun h0 fb fo e e2 => by have := (hla h0 fb fo e).2; omega), hla⟩
theorem RL.other {bb g m : Nat} {W : World} {S : Nat → Prop} {p : Nat} {fin : Bool} {st1 : List GN} {ea : Option Addr} {ec : Nat} {es : List EdP} {sa sa' : Option Addr} {l l' : List Tx} {S1 : Nat → Prop} {w : World} (h : RL bb g m W S p fin st1 ea ec es sa l S1 w) (hl : HoldsT w sa' l'.length l') (hla : 0 < l'.length → ∀ fb fo, sa' = some ⟨fb, fo, none⟩ → ¬ S fb ∧ fb < W.heap.size) :
    RL bb g m W S p fin st1 ea ec es sa' l' S1 w := ⟨h.q, h.sub, h.t, h.np, h.pw, h.c0, h.c1, h.fr, h.o, h.ne, hl, hla⟩
theorem RL.keep {bb g m : Nat} {W : World} {S : Nat → Prop} {p : Nat} {fin : Bool} {st1 : List GN} {ea : Option Addr} {ec : Nat} {es : List EdP} {sa : Option Addr} {l : List Tx} {S1 : Nat → Prop} {w w6 : World} {o : Obj} (h : RL bb g m W S p fin st1 ea ec es sa l S1 w) (hg : (w.alloc o).grownBy w6 (Value.slice ea es.length ec).ownBlock) : w6.cell? ⟨p, 1, none⟩ = some (.slice ea es.length ec) ∧ w6.frozen? ⟨p, 1, none⟩ = false := by
  have hp := lt_of_cell h.c0
  have op := (hg.block p (by simp; omega) (fun e => (h.ne p (gown_at h.o e)).2 rfl)).trans (Below.heap_alloc w o p hp)
  exact ⟨(World.cell?_of_block (w := w) op).trans h.c1, (World.frozen?_of_block (w := w) op).trans (h.fr 1)⟩
/-- the place where the node is to lie -/
theorem RL.target {bb g m : Nat} {W : World} {S : Nat → Prop} {p : Nat} {fin : Bool} {st1 : List GN} {ea : Option Addr} {ec : Nat} {es : List EdP} {sa : Option Addr} {l : List Tx} {S1 : Nat → Prop} {w : World} (h : RL bb g m W S p fin st1 ea ec es sa l S1 w) (i : Nat) (hi : i < st1.length) (s : List Tx) (hr : (st1.getD i gn0).rests = s) :
    ∃ na nc NL q, BMid bb g m na nc NL st1 w S1 ∧ na = some ⟨q, 0, none⟩ ∧ (∃ v, w.cell? ⟨q, i * 2, none⟩ = some v) ∧ (∃ v, w.cell? ⟨q, i * 2 + 1, none⟩ = some v) ∧ (∀ k, w.frozen? ⟨q, k, none⟩ = false) ∧ q ≠ p ∧
      PO (QB bb g m (st1.set i ⟨s, fin, es⟩)) W S ((w.setCell ⟨q, i * 2, none⟩ (.bool fin)).setCell ⟨q, i * 2 + 1, none⟩ (.slice ea es.length ec)) := by
  obtain ⟨na, nc, NL, B⟩ := h.q
  have hnl : NL.length = st1.length := by have := congrArg List.length B.eq; simpa using this
  obtain ⟨q, rfl, h0, h1⟩ := B.G.at (i := i) (by omega)
  have sq := B.G.sn q rfl
  have hea : ∀ fb fo, ea = some ⟨fb, fo, none⟩ → ¬ S1 fb ∧ fb < w.heap.size ∧ W.heap.size ≤ fb := fun fb fo e => by
    have hb := own_blockG h.o e
    rcases Joins.ownsRow_forms h.o with ⟨e1, _⟩ | ⟨g2, cap, e1⟩
    · injection e1 with e2; rw [e] at e2; cases e2
    · injection e1 with e2; rw [e] at e2; injection e2 with e2; injection e2 with e2 e3; subst e2; subst e3
      exact ⟨(h.ne _ e).1, hb.2, hb.1⟩
  obtain ⟨P1, P2⟩ := B.G.put i (by omega) ⟨fin, ea, ec, es⟩ (HoldsEd.own h.o) (owns_none h.o).1 (owns_none h.o).2 (fun fb fo e => ⟨(hea fb fo e).1, (hea fb fo e).2.1⟩)
  refine ⟨_, nc, NL, q, B, rfl, ⟨_, h0⟩, ⟨_, h1⟩, fun k => B.G.o.frozenAt k, fun e => h.np (by rw [← e]; exact sq.1), _, ⟨_, nc, _, ⟨P1, ?_, ?_, ?_, ?_, Or.inl B.sb, Or.inl B.sm, B.n1, B.n2, B.n3, B.n4, fun x hx fb fo e => ?_⟩⟩, fun k hk => ?_, h.t.trans' P2 (fun k hk => by rw [hk]; exact h.sub q sq.1)⟩
  · rw [List.map_set, List.map_set, B.eq]; rfl
  · exact (P2.cell (lt_of_cell B.c0) (fun e => (B.n4 q rfl).2 e.symm)).trans B.c0
  · exact (P2.cell (lt_of_cell B.c0) (fun e => (B.n4 q rfl).2 e.symm)).trans B.c1
  · obtain ⟨f, m1, m2⟩ := B.M
    refine ⟨f, ?_, fun l hl => ?_⟩
    · rw [List.length_set]; exact m1.turn P2 (fun e => (B.n4 q rfl).1 e.symm)
    · rw [m2 l hl, find_set hi (by rw [hr])]
  · rcases List.mem_or_eq_of_mem_set hx with hx | rfl
    · exact B.n5 x hx fb fo e
    · have h3 := hea fb fo e
      exact ⟨fun e2 => h3.1 (by rw [e2]; exact B.sm), fun e2 => h3.1 (by rw [e2]; exact B.sb)⟩
  · rcases hk with hk | ⟨fo, hk⟩
    · exact h.sub k hk
    · exact Or.inr (hea k fo hk).2.2
theorem g4_store {w : World} {b g p q i j : Nat} {v1 v2 v3 v4 u v : Value} (hb : q ≠ b) (hg : q ≠ g) (hp : q ≠ p) (h : w.cell? ⟨b, 0, none⟩ = some v1 ∧ w.cell? ⟨g, 0, none⟩ = some v2 ∧ w.cell? ⟨p, 0, none⟩ = some v3 ∧ w.cell? ⟨p, 1, none⟩ = some v4) :
    ((w.setCell ⟨q, i, none⟩ u).setCell ⟨q, j, none⟩ v).cell? ⟨b, 0, none⟩ = some v1 ∧ ((w.setCell ⟨q, i, none⟩ u).setCell ⟨q, j, none⟩ v).cell? ⟨g, 0, none⟩ = some v2 ∧ ((w.setCell ⟨q, i, none⟩ u).setCell ⟨q, j, none⟩ v).cell? ⟨p, 0, none⟩ = some v3 ∧ ((w.setCell ⟨q, i, none⟩ u).setCell ⟨q, j, none⟩ v).cell? ⟨p, 1, none⟩ = some v4 :=
  ⟨((cset_far hb).trans (cset_far hb)).trans h.1, ((cset_far hg).trans (cset_far hg)).trans h.2.1, ((cset_far hp).trans (cset_far hp)).trans h.2.2.1, ((cset_far hp).trans (cset_far hp)).trans h.2.2.2⟩
def sliceLenG : Value → Nat
  | .slice _ n _ => n
  | _ => 0
theorem tx_nil (t : Tx) : t = (⟨#[]⟩ : ByteArray) ↔ t.toList = [] := by
  have e : (⟨#[]⟩ : ByteArray).toList = [] := by kernel_rfl
  constructor
  · intro h; rw [h]; exact e
  · intro h
    have : cmpS t ⟨#[]⟩ = 0 := by unfold cmpS; rw [h, e]; exact cmpL_same _
    exact cmpS_zero.1 this
end Go.Proofs.Ytlcmndbnknifhaa
/- graph: reach, its contract -/
namespace Go.Proofs.Ytlcmndbnknifhaa
open Go.RowKit Go.Maps
set_option linter.unusedVariables false
set_option maxRecDepth 20000
theorem nodeG_info : (Try.prog.info? 92).map (fun i => (i.zero, i.size, i.bytes)) = some (some (.agg #[.bool false, .slice none 0 0]), 2, 32) := by kernel_rfl
theorem edgeG_info : (Try.prog.info? 67).map (fun i => (i.zero, i.size, i.bytes)) = some (some (.agg #[.int .i32 0, .int .i64 0]), 2, 16) := by kernel_rfl
def Away (w : World) (S : Nat → Prop) (a : Option Addr) (n : Nat) : Prop := 0 < n → ∀ fb fo, a = some ⟨fb, fo, none⟩ → ¬ S fb ∧ fb < w.heap.size
def ReachP (bb g m : Nat) (w : World) (S : Nat → Prop) (r : Nat × List GN) (e : Ending) (w' : World) : Prop := e = .returned (.int .i64 r.1) ∧ PO (QB bb g m r.2) w S w'
def ReachAny (bb g m f : Nat) : Prop := ∀ (st : List GN) (s : List Tx) (a : Option Addr) (cap : Nat) (S : Nat → Prop) (w : World), QB bb g m st w S → OkL f s → HoldsT w a s.length s → Away w S a s.length → s.length ≤ cap → st.length + wtS s + 1 ≤ 1000000 →
    Calls Try.prog 30 #[.pointer (some ⟨bb, 0, none⟩), .slice a s.length cap] w (ReachP bb g m w S (reachF (f + 1) st s))
set_option maxHeartbeats 6400000 in
set_option maxRecDepth 100000 in
theorem reach_step (bb g m f : Nat) (IH : ∀ f', f = f' + 1 → ReachAny bb g m f') : ReachAny bb g m f := by
  intro st s a cap S w hQ hO hH hA hc hb
  obtain ⟨i0, hi, hz0, hz1, hz2⟩ := info_parts nodeG_info
  obtain ⟨j0, hj, hy0, hy1, hy2⟩ := info_parts edgeG_info
  have IHH := Lib.hid IH; have OK := Lib.hid hO; have HH := Lib.hid hH; have AW := Lib.hid hA; have QW := Lib.hid hQ
  obtain ⟨n, hn⟩ : ∃ n, s.length = n := ⟨_, rfl⟩
  have HN := Lib.hid hn
  rw [hn] at hH hc
  have hn100 : n ≤ 100 := by have := hO.n; omega
  have CN := Lib.hid (nameOf_any a n cap s w hH hn100 hO.sz)
  clear hQ hO hH hA IH
  rw [hn]
  clear hn
  go_enter Try.func30, Try.ntmps30
  go_wp2_with fail
  refine CN.out.mono ?_
  rintro e w' ⟨⟨nm, rfl, hnm⟩, rfl⟩
  have NM := Lib.hid hnm
  have nz : nm.size ≤ 10100 := by
    have h1 := nameL_len s OK.out.sz
    have h2 : nm.data.toList.length = nm.size := by simp
    rw [NM.out] at h2
    have h3 := HN.out
    have : s.length * 101 ≤ 10100 := by omega
    omega
  have nzl : nm.size ≤ maxLen := by unfold maxLen; omega
  clear hnm CN
  obtain ⟨na, nc, NL, B⟩ := QW.out
  obtain ⟨fm, hM, hF⟩ := B.M
  have c0 := B.c0
  have c1 := B.c1
  have BW := Lib.hid B
  have HF := Lib.hid hF
  have fnm : fm nm.data.toList = ointG (findG st s) := by rw [NM.out]; exact hF s OK.out.lo
  have hnl : NL.length = st.length := by have := congrArg List.length B.eq; simpa using this
  clear hF B
  cases hfd : findG st s with
  | some i =>
    rw [hfd] at fnm
    have FN := Lib.hid (show fm nm.data.toList = some (i : Int) from fnm)
    have R := Lib.hid (show reachF (f + 1) st s = (i, st) from by unfold reachF; rw [hfd])
    clear fnm hfd
    go_wp2_with (at_lookup; refine wpList_look_ms rfl _ _ rfl rfl hM nm rfl nzl ?_; rw [FN.out])
    go_ret
    rw [R.out]
    exact ⟨rfl, S, QW.out, fun k hk => Or.inl hk, Turn.refl _ _⟩
  | none =>
    rw [hfd] at fnm
    have FN := Lib.hid (show fm nm.data.toList = none from fnm)
    have FD := Lib.hid hfd
    clear fnm hfd
    have gc := BW.out.G.c
    rw [hnl] at gc
    have HNL := Lib.hid hnl
    clear hnl
    have ms : MapS w m st.length fm := hM
    have hst : st.length < maxLen := by unfold maxLen; omega
    have nwf : (Lit.int .i64 (st.length : Int)).wf = true := Go.WalkArith.wf_i64 (by omega)
    obtain ⟨w2, hrun, ms2, tm2⟩ := ms.put_run hst nm (st.length : Int) nzl nwf
    rw [FN.out] at ms2
    have MS2 := Lib.hid (show MapS w2 m (st.length + 1) (sset fm (nameL s) (some (st.length : Int))) from by rw [← NM.out]; exact ms2)
    have TM2 := Lib.hid tm2
    have t2 := Turn.of_mapTurnedS (F := fun k => k = m) tm2 rfl
    have T2 := Lib.hid t2
    have G2 := Lib.hid (BW.out.G.but t2 BW.out.n1 (fun r hr => (BW.out.n4 r hr).1) (fun x hx fb fo e => (BW.out.n5 x hx fb fo e).1))
    have d0 : w2.cell? ⟨bb, 0, none⟩ = some (.pointer (some ⟨g, 0, none⟩)) := (t2.cell (lt_of_cell c0) BW.out.n2).trans c0
    have dc : w2.cell? ⟨g, 0, none⟩ = some (.slice na st.length nc) := (t2.cell (lt_of_cell gc) BW.out.n1).trans gc
    clear ms2 tm2 t2 ms
    go_upto_region 7 with (at_lookup; refine wpList_look_ms rfl _ _ rfl rfl hM nm rfl nzl ?_; rw [FN.out])
    have OWN := Lib.hid (show w2.drew.ownsRow 0 92 2 (.slice na st.length nc) st.length (nmV NL) from by have := G2.out.o; rw [HNL.out] at this; exact owns_below this (Below.refl _ _).drew)
    have AB := Lib.hid (show ∀ o w', (w2.drew.alloc o).grownBy w' (Value.slice na st.length nc).ownBlock → w'.cell? ⟨bb, 0, none⟩ = some (.pointer (some ⟨g, 0, none⟩)) ∧ w'.cell? ⟨g, 0, none⟩ = some (.slice na st.length nc) ∧ w'.frozen? ⟨g, 0, none⟩ = false from fun o w' hg => by
      have lb := lt_of_cell d0
      have lg := lt_of_cell dc
      have o1 := (hg.block bb (by simp; omega) (fun e => (BW.out.n4 bb (gown_at OWN.out e)).2 rfl)).trans (Below.heap_alloc w2.drew o bb lb)
      have o2 := (hg.block g (by simp; omega) (fun e => (BW.out.G.sn g (gown_at OWN.out e)).2 rfl)).trans (Below.heap_alloc w2.drew o g lg)
      exact ⟨(World.cell?_of_block (w := w2) o1).trans d0, (World.cell?_of_block (w := w2) o2).trans dc, (World.frozen?_of_block (w := w2) o2).trans (G2.out.f 0)⟩)
    have n1 : w2.drew.cell? ⟨bb, 0, none⟩ = some (.pointer (some ⟨g, 0, none⟩)) := d0
    have n2 : w2.drew.cell? ⟨g, 0, none⟩ = some (.slice na st.length nc) := dc
    have n3 : (w2.alloc (.cells #[.bool false, .slice none 0 0] 92)).drew.cell? ⟨bb, 0, none⟩ = some (.pointer (some ⟨g, 0, none⟩)) := (Below.cell (below_one w2 _) (p := ⟨bb, 0, none⟩) (lt_of_cell d0)).trans d0
    have n4 : (w2.alloc (.cells #[.bool false, .slice none 0 0] 92)).drew.cell? ⟨g, 0, none⟩ = some (.slice na st.length nc) := (Below.cell (below_one w2 _) (p := ⟨g, 0, none⟩) (lt_of_cell dc)).trans dc
    have n5 : (w2.alloc (.cells #[.bool false, .slice none 0 0] 92)).cell? ⟨bb, 0, none⟩ = some (.pointer (some ⟨g, 0, none⟩)) := n3
    have n6 : (w2.alloc (.cells #[.bool false, .slice none 0 0] 92)).cell? ⟨g, 0, none⟩ = some (.slice na st.length nc) := n4
    have hst2 : st.length ≤ 1000000 := by omega
    clear hM c0 c1 gc hrun
    go_cut [] (fun wc => Hid (PO (QB bb g m (st ++ [⟨s, false, []⟩])) w S wc))
    case first =>
      go_region_law
        (refine step_append_lies _ (by rfl) _ _ _ (by rfl) 0 92 i0 _ 2 32 Try.underlying56 hi hz0 hz1 hz2 rfl (by omega) (.slice na st.length nc) st.length (nmV NL) (by rfl) (OWN.out.alloc _) ⟨w2.drew.heap.size, 0, none⟩ 1 1 [.bool false, .slice none 0 0] (by rfl) (by rfl) (World.news_of_block (cs := #[.bool false, .slice none 0 0]) (t := 92) (fr := (0, 0)) (heap_alloc_new w2.drew _)) (by simp [Value.oneCell']) (by omega) (by unfold maxLen; omega) (by omega) (by omega) (w2.drew.heap.size + 1) (by simp) ?_; intro g3 c3 w3 hown3 hgrow3 hat3 hlt3; obtain ⟨x0, x1, x2⟩ := AB.out _ _ hgrow3)
      all_goals
        have FR := Lib.hid (BW.out.fresh (w2 := w2.drew) (w3 := w3) (q := g3) (cap := c3) (s := s) (fm := fm) (MapS.block MS2.out rfl) T2.out.drew HF.out OK.out.lo FD.out (by rw [HNL.out]; exact hown3) (by rw [HNL.out]; exact hgrow3) (by rw [HNL.out]; exact hat3.imp id (fun e => by simp; exact e)) hlt3)
        rw [HNL.out] at FR
        clear hown3 hgrow3 hat3 hlt3 x0 x1 x2
        go_wp2_with fail
        go_meet
        obtain ⟨S', h1, h2, h3⟩ := FR.out
        exact Lib.hid ⟨S', ⟨_, _, _, h1⟩, h2, h3⟩
    case rest =>
      rename World => wc
      obtain ⟨Sc, qc, sc0, tc⟩ := hcut.out
      have HHT := Lib.hid (show HoldsT wc a s.length s from holdsT_turn HH.out tc (fun h0 fb fo e => (AW.out h0 fb fo e).1))
      have LC := (qb_ok bb g m (st ++ [⟨s, false, []⟩])).lt qc
      have R0 := Lib.hid (show RL bb g m w S wc.heap.size false (st ++ [⟨s, false, []⟩]) none 0 [] a s Sc (wc.alloc (.cells #[.bool false, .slice none 0 0] 92)) from
        ⟨(qb_ok bb g m _).below qc (below_one wc _), sc0, tc.trans (Turn.of_below (below_one wc _)), fun hk => by have := LC _ hk; omega, tc.size, by rw [cell_alloc rfl]; rfl, by rw [cell_alloc rfl]; rfl, fun i => frozen_alloc rfl, World.ownsRow_nil _ _ _ _, fun k e => (by cases e), HHT.out.below (below_one wc _), AW.out⟩)
      have ED := Lib.hid (show reachF (f + 1) st s = (st.length, (edgesF (reachF f) (bodS s).length (bodS s) [] (st ++ [⟨s, false, []⟩])).2.set st.length ⟨s, finS s, (edgesF (reachF f) (bodS s).length (bodS s) [] (st ++ [⟨s, false, []⟩])).1⟩) from by conv => lhs; unfold reachF; rw [FD.out])
      clear hcut qc sc0 tc LC HHT d0 dc n1 n2 n3 n4 n5 n6 OWN AB MS2 TM2 T2 G2 BW HF FN FD hst nwf NM nz nzl QW
      go_upto_region 9 with fail
      generalize wc.alloc (.cells #[.bool false, .slice none 0 0] 92) = w4 at *
      obtain ⟨p, hp⟩ : ∃ p, wc.heap.size = p := ⟨_, rfl⟩
      rw [hp] at R0
      rw [hp]
      clear hp
      obtain ⟨zf, hzf⟩ : ∃ z, finS s = z := ⟨_, rfl⟩
      have HZF := Lib.hid hzf
      obtain ⟨R, hR⟩ : ∃ r, edgesF (reachF f) (bodS s).length (bodS s) [] (st ++ [⟨s, false, []⟩]) = r := ⟨_, rfl⟩
      rw [hR] at ED
      have HR := Lib.hid hR
      clear hzf hR
      go_cut [64] (fun u wd => u = .bool zf ∧ w4 = wd)
      case first =>
        rcases Nat.eq_zero_or_pos n with hn0 | hn0
        · subst hn0
          have hs0 : s = [] := List.eq_nil_of_length_eq_zero HN.out
          obtain rfl : zf = false := by rw [← HZF.out, hs0]; rfl
          clear hs0
          go_wp2_with fail
          go_meet
          exact ⟨rfl, rfl⟩
        · have hd1 : decide ((n : Int) > 0) = true := decide_eq_true (by omega)
          have hd2 : decide (0 < n) = true := decide_eq_true hn0
          have hih := R0.out.hl
          rw [HN.out] at hih
          obtain ⟨b, o, rfl, hcc⟩ := hih.at hn0
          have x0 := hcc 0 hn0
          obtain ⟨t, ht⟩ : ∃ t, s.getD 0 ByteArray.empty = t := ⟨_, rfl⟩
          rw [ht, Nat.add_zero] at x0
          have hni : (0 : Int) < (n : Int) := by omega
          have hzt : t.toList.isEmpty = zf := by
            rw [← HZF.out]
            have hs2 : s.head? = some t := by
              have hsl := HN.out
              cases hs3 : s with
              | nil => rw [hs3] at hsl; simp at hsl; omega
              | cons t' l' => rw [hs3] at ht; simp at ht; simp [ht]
            unfold finS
            rw [hs2, Bool.eq_iff_iff]
            simp only [decide_eq_true_eq, List.isEmpty_iff]
            constructor
            · intro h; rw [(tx_nil t).2 h]
            · intro h; exact (tx_nil t).1 (by injection h)
          have hzt2 : (t.toList == []) = zf := by rw [← hzt]; cases t.toList <;> rfl
          clear hcc hih ht
          go_wp2_with fail
          go_meet
          exact ⟨by first | rfl | rw [hzt] | rw [hzt2], rfl⟩
      case rest =>
        obtain ⟨rfl, rfl⟩ := hcut
        go_upto_if 64 with fail
        go_cut [1] (fun v wd => ∃ sa sc, v = .slice sa (bodS s).length sc ∧ Hid ((bodS s).length ≤ sc) ∧ Hid (RL bb g m w S p zf (st ++ [⟨s, false, []⟩]) none 0 [] sa (bodS s) Sc wd))
        case first =>
          cases zf
          · have hbs : bodS s = s := by unfold bodS; rw [HZF.out]; rfl
            have HBS := Lib.hid hbs
            clear hbs
            go_wp2_with fail
            go_meet
            exact ⟨a, cap, by rw [HBS.out, HN.out], Lib.hid (by rw [HBS.out, HN.out]; exact hc), Lib.hid (by rw [HBS.out]; exact R0.out)⟩
          · obtain ⟨l, hsl⟩ : ∃ l, s = ⟨#[]⟩ :: l := by
              have h := HZF.out
              unfold finS at h
              have h2 := of_decide_eq_true h
              cases s with
              | nil => simp at h2
              | cons t l => simp at h2; exact ⟨l, by rw [h2]⟩
            have hbs : bodS s = l := by unfold bodS; rw [HZF.out, hsl]; rfl
            obtain ⟨k, rfl⟩ : ∃ k, n = k + 1 := ⟨l.length, by rw [← HN.out, hsl]; rfl⟩
            have hlk : l.length = k := by have := HN.out; rw [hsl] at this; simpa using this
            obtain ⟨c, rfl⟩ : ∃ c, cap = c + 1 := ⟨cap - 1, by omega⟩
            have hih := R0.out.hl
            rw [HN.out] at hih
            obtain ⟨b, o, rfl, hcc⟩ := hih.at (by omega)
            obtain ⟨o', hA, hAH⟩ : ∃ o', (if c = 0 then some (⟨b, o, none⟩ : Addr) else some ⟨b, o + 1, none⟩) = some ⟨b, o', none⟩ ∧ Hid (HoldsT w4 (some ⟨b, o', none⟩) k l) := by
              by_cases hc0 : c = 0
              · have hk0 : k = 0 := by omega
                subst hk0
                have hl0 : l = [] := List.eq_nil_of_length_eq_zero hlk
                exact ⟨o, by rw [if_pos hc0], Lib.hid (by rw [hl0]; exact HoldsT.nil _ _)⟩
              · refine ⟨o + 1, by rw [if_neg hc0], Lib.hid (HoldsT.of hlk (fun i hi => ?_))⟩
                have h := hcc (i + 1) (by omega)
                rw [hsl, List.getD_cons_succ] at h
                rw [show o + 1 + i = o + (i + 1) by omega]
                exact h
            have HBS := Lib.hid hbs; have HLK := Lib.hid hlk
            have z0 := R0.out.c0
            have zf0 := R0.out.fr 0
            have i1 : (1 : Int) ≤ (k : Int) + 1 := by omega
            have i2 : (1 : Int) ≤ ((k + 1 : Nat) : Int) := by omega
            have RN := Lib.hid (show RL bb g m w S p true (st ++ [⟨s, false, []⟩]) none 0 [] (some ⟨b, o', none⟩) l Sc (w4.setCell ⟨p, 0, none⟩ (.bool true)) from
              R0.out.flag (b := true) (by rw [hlk]; exact hAH.out) (fun h0 fb fo e => by injection e with e; injection e with e1 e2; subst e1; exact R0.out.la (by rw [hsl]; simp) b o rfl))
            clear hcc hih hbs hlk hsl
            go_wp2_with fail
            go_meet
            exact ⟨some ⟨b, o', none⟩, c, by rw [HBS.out, HLK.out], Lib.hid (by rw [HBS.out, HLK.out]; omega), Lib.hid (by rw [HBS.out]; exact RN.out)⟩
        case rest =>
          obtain ⟨sa, sc, rfl, hsc, hR1⟩ := hcut
          rename World => w5
          have hok : OkL f (bodS s) ∧ ∀ t ∈ bodS s, 0 < t.size := ⟨OK.out.bod, bod_pos OK.out.ord⟩
          have HOK := Lib.hid hok
          have hbl : (bodS s).length ≤ 100 := hok.1.n
          have HWT := Lib.hid (show (st ++ [(⟨s, false, []⟩ : GN)]).length + wtS (bodS s) ≤ 1000000 from by rw [List.length_append, List.length_singleton]; have := wt_bod s; omega)
          have HLT := Lib.hid (show st.length < (st ++ [(⟨s, false, []⟩ : GN)]).length from by rw [List.length_append, List.length_singleton]; omega)
          clear hok
          go_wp2_with fail
          go_loopw [1] (fun v wr => ∃ (k : Nat) (l : List Tx) (es : List EdP) (st1 : List GN) (S1 : Nat → Prop) (ea : Option Addr) (ec : Nat) (sa : Option Addr) (sc : Nat), v = .slice sa l.length sc ∧ l.length ≤ k ∧ es.length + k ≤ 100 ∧ Hid (l.length ≤ sc) ∧ Hid (edgesF (reachF f) k l es st1 = R) ∧ Hid (OkL f l ∧ ∀ t ∈ l, 0 < t.size) ∧ Hid (st1.length + wtS l ≤ 1000000) ∧ Hid (st.length < st1.length) ∧ Hid ((st1.getD st.length gn0).rests = s) ∧ Hid (RL bb g m w S p zf st1 ea ec es sa l S1 wr)) (fun v _ => sliceLenG v)
          case atStart => exact ⟨(bodS s).length, bodS s, [], _, Sc, none, 0, sa, sc, rfl, Nat.le_refl _, by simpa using hbl, hsc, HR, HOK, HWT, HLT, Lib.hid (by simp [List.getD_eq_getElem?_getD]), hR1⟩
          case round =>
            clear hR1 hsc HOK HWT HLT hbl
            obtain ⟨k, l, es, st1, S1, ea, ec, sa, sc, rfl, hlk, hek, hsc, hE, hOK, hWT, hLT, hRS, hRL⟩ := hrel
            rename World => wr
            by_cases hl0 : l = []
            · subst hl0
              have hRR : R = (es, st1) := by
                rw [← hE.out]
                cases k with
                | zero => rfl
                | succ k => unfold edgesF; rw [if_pos rfl]
              obtain ⟨na1, nc1, NL1, q, hB, hqa, ⟨vq0, hq0⟩, ⟨vq1, hq1⟩, hqf, hqn, hPO⟩ := hRL.out.target st.length hLT.out s hRS.out
              have c0 := hB.c0
              have gc := hB.G.c
              have p0 := hRL.out.c0
              have p1 := hRL.out.c1
              have qb : q ≠ bb := (hB.n4 q hqa).2
              have qg : q ≠ g := (hB.G.sn q hqa).2
              have qp : q ≠ p := hqn
              have hnl1 : NL1.length = st1.length := by have := congrArg List.length hB.eq; simpa using this
              rw [hnl1] at gc
              subst hqa
              have f1 := hqf (st.length * 2)
              have f2 := hqf (st.length * 2 + 1)
              have i1 : (0 : Int) ≤ (st.length : Int) := by omega
              have i2 : (st.length : Int) < (st1.length : Int) := by have := hLT.out; omega
              have FIN := Lib.hid hPO
              have HRR := Lib.hid hRR
              clear hB hnl1 hqf hPO hRR hqn
              go_upto_region 16 with fail
              go_region_held3 (fun w' => w'.cell? ⟨bb, 0, none⟩ = some (.pointer (some ⟨g, 0, none⟩)) ∧ w'.cell? ⟨g, 0, none⟩ = some (.slice (some ⟨q, 0, none⟩) st1.length nc1) ∧ w'.cell? ⟨p, 0, none⟩ = some (.bool zf) ∧ w'.cell? ⟨p, 1, none⟩ = some (.slice ea es.length ec))
                (first | assumption | exact ⟨c0, gc, p0, p1⟩ | exact g4_store qb qg qp ⟨c0, gc, p0, p1⟩)
                (fail)
              all_goals
                go_wp2_with fail
                go_ret
                rw [ED.out, HRR.out, HZF.out]
                exact ⟨rfl, FIN.out.more (qb_ok bb g m _) (Below.refl _ _).drew⟩
            · have hpos : 0 < l.length := by cases l with
                | nil => exact absurd rfl hl0
                | cons t l => simp
              obtain ⟨k, rfl⟩ : ∃ k', k = k' + 1 := ⟨k - 1, by omega⟩
              obtain ⟨f', rfl⟩ : ∃ f', f = f' + 1 := by
                refine ⟨f - 1, ?_⟩
                have hm : l.getD 0 ByteArray.empty ∈ l := getD_tx hpos
                have h1 := rst_len (hOK.out.1.lo _ hm) (hOK.out.2 _ hm)
                have h2 := hOK.out.1.hi _ hm
                omega
              have C := Lib.hid (IHH.out f' rfl)
              have hl100 := hOK.out.1.n
              have CF := Lib.hid (follow_any sa l.length sc l wr hRL.out.hl hpos hl100 hOK.out.2 hOK.out.1.sz)
              have HFL := Lib.hid (fol_len l hl0)
              have HWF := Lib.hid (wt_fol hl0 hOK.out.1.lo hOK.out.2)
              have OKF := Lib.hid (hOK.out.1.fol hOK.out.2)
              obtain ⟨⟨lab, rs⟩, hfo⟩ : ∃ r, folS l = r := ⟨_, rfl⟩
              have hEE := hE.out
              unfold edgesF at hEE
              rw [if_neg hl0, hfo] at hEE
              unfold FolP at CF
              rw [hfo] at CF HFL HWF OKF
              obtain ⟨⟨ix, st2⟩, hre⟩ : ∃ r, reachF (f' + 1) st1 rs = r := ⟨_, rfl⟩
              simp only at hEE
              rw [hre] at hEE
              have HE := Lib.hid hEE
              have HRE := Lib.hid hre
              have RLN := Lib.hid (reach_len f' st1 rs OKF.out)
              rw [hre] at RLN
              have hpi : (0 : Int) < (l.length : Int) := by omega
              have hd1 : decide ((l.length : Int) > 0) = true := decide_eq_true (by omega)
              have hd2 : decide (0 < l.length) = true := decide_eq_true hpos
              clear hEE hre hE hfo
              go_wp2_with fail
              refine CF.out.mono ?_
              rintro e w6 ⟨fa, fc, rfl, hfo, hb6⟩
              simp only at hfo ⊢
              have R6 := Lib.hid (hRL.out.more hb6)
              have FA := Lib.hid hfo
              have FW := Lib.hid (show Away w6.drew S1 fa rs.length from fun h0 fb fo e => by
                have h1 := own_blockG hfo e
                exact ⟨fun hk => by have := hRL.out.qlt fb hk; omega, h1.2⟩)
              have C6 := Lib.hid (C.out st1 rs fa fc S1 w6.drew ((qb_ok bb g m st1).below R6.out.q (Below.refl _ _).drew) OKF.out ((HoldsT.own FA.out).below (Below.refl _ _).drew) FW.out (owns_none FA.out).2 (by have := hWT.out; have := HWF.out; omega))
              rw [HRE.out] at C6
              clear hfo hb6 CF C FW
              have R6d := Lib.hid (R6.out.more (Below.refl w6.heap.size w6).drew)
              have y0 := R6d.out.c1
              have hes : es.length ≤ 100 := by omega
              go_upto_region 14 with fail
              go_cut [] (fun wd => Hid (∃ S2 ea2 ec2, RL bb g m w S p zf st2 ea2 ec2 (es ++ [⟨(lab : Int), (ix : Int)⟩]) sa l S2 wd))
              case first =>
                go_region_law
                  (first
                    | (refine step_append_lies _ (by rfl) _ _ _ (by rfl) w.heap.size 67 j0 _ 2 16 Try.underlying49 hj hy0 hy1 hy2 rfl (by omega) (.slice ea es.length ec) es.length (edsV es) (by first | rfl | (simp [Act.eval]; done) | simp [Act.eval, Act.put]) (hR7.o.alloc _) ⟨w7.heap.size, 0, none⟩ 1 1 [.int .i32 (lab : Int), .int .i64 (ix : Int)] (by first | rfl | (simp [Act.eval]; done) | simp [Act.eval, Act.put]) (by rfl) (World.news_of_block (cs := #[.int .i32 (lab : Int), .int .i64 (ix : Int)]) (t := 67) (fr := (0, 0)) (heap_alloc_new w7 _)) (by simp [Value.oneCell']) (by omega) (by unfold maxLen; omega) (by omega) (by have := hR7.t.size; simp; omega) (w7.heap.size + 1) (by simp) ?_; intro g3 c3 w8 hown8 hgrow8 hat8 hlt8; obtain ⟨x0, x1⟩ := hR7.keep hgrow8)
                    | (go_simp; go_at_call 30; (with_reducible refine C6.out.mono ?_); rintro e w7 ⟨rfl, hPO⟩; obtain ⟨S2, hR7⟩ := R6d.out.step hPO; have y1 := hR7.c1; have y3 := fun o => ((below_one w7 o).cell (p := ⟨p, 1, none⟩) (lt_of_cell y1)).trans y1))
                all_goals
                  have RN := Lib.hid (hR7.edge (x := ⟨(lab : Int), (ix : Int)⟩) hown8 hgrow8 (hat8.imp id (fun e => by simp; exact e)))
                  clear hown8 hgrow8 hat8 hlt8 x0 x1 y1 y3
                  go_wp2_with fail
                  go_meet
                  exact Lib.hid ⟨S2, _, _, RN.out⟩
              case rest =>
                obtain ⟨S2, ea2, ec2, hR8⟩ := hcut.out
                rename World => w9
                have R8 := Lib.hid hR8
                clear hcut hR8 R6 R6d C6 y0 FA
                obtain ⟨b, o, rfl, hcc⟩ := R8.out.hl.at hpos
                obtain ⟨d, hd⟩ : ∃ d, rs.length = d := ⟨_, rfl⟩
                rw [hd] at HFL HWF HE
                rw [hd]
                clear hd
                have hd1' := HFL.out.1
                have hd2' := HFL.out.2
                have hsc' := hsc.out
                obtain ⟨o', hA, hAH⟩ : ∃ o', (if sc = d then some (⟨b, o, none⟩ : Addr) else some ⟨b, o + d, none⟩) = some ⟨b, o', none⟩ ∧ Hid (HoldsT w9 (some ⟨b, o', none⟩) (l.drop d).length (l.drop d)) := by
                  by_cases hc0 : sc = d
                  · have hl0' : l.drop d = [] := List.drop_eq_nil_of_le (by omega)
                    exact ⟨o, by rw [if_pos hc0], Lib.hid (by rw [hl0']; exact HoldsT.nil _ _)⟩
                  · refine ⟨o + d, by rw [if_neg hc0], Lib.hid (HoldsT.of rfl (fun i hi => ?_))⟩
                    rw [List.length_drop] at hi
                    have h := hcc (d + i) (by omega)
                    rw [show o + d + i = o + (d + i) by omega, h]
                    congr 2
                    simp [List.getD_eq_getElem?_getD]
                have RN := Lib.hid (R8.out.other hAH.out (fun h0 fb fo e => by injection e with e; injection e with e1 e2; subst e1; exact R8.out.la hpos b o rfl))
                have i1 : (0 : Int) ≤ (d : Int) := by omega
                have i2 : (d : Int) ≤ (l.length : Int) := by omega
                have ldr : l.length - d = (l.drop d).length := by rw [List.length_drop]
                have LDR := Lib.hid ldr
                clear hcc ldr
                go_wp2_with fail
                go_roundw
                case rel => exact ⟨k, l.drop d, es ++ [⟨(lab : Int), (ix : Int)⟩], st2, S2, ea2, ec2, some ⟨b, o', none⟩, sc - d, by rw [LDR.out], by rw [List.length_drop]; omega, by simp; omega, Lib.hid (by rw [List.length_drop]; omega), HE, Lib.hid ⟨hOK.out.1.drop _, fun t ht => hOK.out.2 t (List.mem_of_mem_drop ht)⟩, Lib.hid (by have := hWT.out; have := HWF.out; have := RLN.out; omega), Lib.hid (by have := hLT.out; have := RLN.out; omega), Lib.hid (by rw [← hRS.out]; have := reach_rests f' st1 rs OKF.out st.length hLT.out; rw [HRE.out] at this; exact this), RN⟩
                case measure => simp only [sliceLenG]; rw [LDR.out, List.length_drop]; omega
theorem reach_any (bb g m : Nat) : ∀ f, ReachAny bb g m f := by
  intro f
  induction f with
  | zero => exact reach_step bb g m 0 (fun f' e => by omega)
  | succ f ih => exact reach_step bb g m (f + 1) (fun f' e => by obtain rfl : f = f' := by omega
                                                                 exact ih)
end Go.Proofs.Ytlcmndbnknifhaa
/- graph: Build, and what is asked of a graph -/
namespace Go.Proofs.Ytlcmndbnknifhaa
open Go.RowKit Go.Maps
set_option linter.unusedVariables false
set_option maxRecDepth 20000
/-- the nodes of the words -/
def grS (ts : List Tx) : List GN := (reachF 13 [] ts).2
theorem ok_good {ts : List Tx} (h : goodV ts = 0) (hsz : ∀ t ∈ ts, t.size ≤ 100) : OkL 12 ts := by
  obtain ⟨h1, h2, h3⟩ := goodV_zero h
  exact ⟨h3, fun t ht => by have := (h2 t ht).1; omega, fun t ht => (h2 t ht).2, by omega, hsz⟩
theorem wt_good : ∀ (ts : List Tx), (∀ t ∈ ts, lenS t ≤ 12) → wtS ts ≤ ts.length * 12
  | [], _ => by simp [wtS]
  | t :: l, h => by
    have h1 := wt_good l (fun u hu => h u (by simp [hu]))
    have h2 := h t (by simp)
    simp only [wtS, List.length_cons]
    omega
def BuildP (w : World) (ts : List Tx) (e : Ending) (w' : World) : Prop := ∃ g S, e = .returned (.tuple #[.pointer (some ⟨g, 0, none⟩), .int .i64 0]) ∧ GAt g (grS ts) w' S ∧ (∀ k, S k → w.heap.size ≤ k) ∧ Below w.heap.size w w'
theorem build_bad (a : Option Addr) (n cap : Nat) (ts : List Tx) (v : Int) (w : World) (hh : HoldsT w a n ts) (hn : n ≤ 9223372036854775807) (hs : ∀ t ∈ ts, t.size ≤ 9223372036854775807) (hv : goodV ts = v) (h0 : v ≠ 0) :
    Calls Try.prog 14 #[.slice a n cap] w fun e w' => e = .returned (.tuple #[.pointer none, .int .i64 v]) ∧ Below w.heap.size w w' := by
  have CG := Lib.hid (good_any' a n cap ts w hh hn hs)
  rw [hv] at CG
  have hne : (v != 0) = true := by simpa using h0
  clear hh hs hv h0
  go_enter Try.func14, Try.ntmps14
  go_wp2_with fail
  refine CG.out.mono ?_
  rintro e w1 ⟨rfl, hb⟩
  have B1 := Lib.hid hb
  clear hb
  go_wp2_with fail
  go_ret2
  exact ⟨rfl, B1.out⟩
theorem qb_start (w1 : World) (t1 t2 : TypeId) : QB (w1.heap.size + 1 + 1) w1.heap.size (w1.heap.size + 1) [] (((w1.alloc (Obj.cells #[Value.slice none 0 0] t1)).alloc (Obj.map #[] 0)).alloc (Obj.cells #[Value.pointer (some { block := w1.heap.size, off := 0 }), Value.map (some (w1.heap.size + 1))] t2)) (fun k => w1.heap.size ≤ k ∧ k < w1.heap.size + 3) := by
  have hm := mapS_made (w1.alloc (Obj.cells #[Value.slice none 0 0] t1))
  rw [show (w1.alloc (Obj.cells #[Value.slice none 0 0] t1)).heap.size = w1.heap.size + 1 from by simp] at hm
  have hb := Below.heap_alloc ((w1.alloc (Obj.cells #[Value.slice none 0 0] t1)).alloc (Obj.map #[] 0)) (Obj.cells #[Value.pointer (some { block := w1.heap.size, off := 0 }), Value.map (some (w1.heap.size + 1))] t2)
  have hc := Below.heap_alloc (w1.alloc (Obj.cells #[Value.slice none 0 0] t1)) (Obj.map #[] 0)
  have b0 := (hb w1.heap.size (by simp; omega)).trans (hc w1.heap.size (by simp))
  have b1 := hb (w1.heap.size + 1) (by simp)
  refine ⟨none, 0, [], ⟨⟨?_, fun i => ?_, World.ownsRow_nil _ 0 _ 2, fun x hx => by simp at hx, ⟨by omega, by omega⟩, fun q hq => by (cases hq), fun k hk => ?_⟩, rfl, ?_, ?_, ⟨fun _ => none, hm.block b1, fun l _ => rfl⟩, ⟨by omega, by omega⟩, ⟨by omega, by omega⟩, by omega, by omega, by omega, fun q hq => by (cases hq), fun x hx => by simp at hx⟩⟩
  · rw [World.cell?_of_block (w := w1.alloc (Obj.cells #[Value.slice none 0 0] t1)) b0, World.cell?_alloc_at _ _ _ _ rfl]; rfl
  · rw [World.frozen?_of_block (w := w1.alloc (Obj.cells #[Value.slice none 0 0] t1)) b0, World.frozen?_alloc_at _ _ _ _ rfl]
  · simp; omega
  · rw [World.cell?_alloc_at _ _ _ _ (by simp)]; rfl
  · rw [World.cell?_alloc_at _ _ _ _ (by simp)]; rfl
set_option maxHeartbeats 1600000 in
theorem build_good (a : Option Addr) (n cap : Nat) (ts : List Tx) (w : World) (hh : HoldsT w a n ts) (hc : n ≤ cap) (hn : n ≤ 9223372036854775807) (hs : ∀ t ∈ ts, t.size ≤ 100) (hv : goodV ts = 0) :
    Calls Try.prog 14 #[.slice a n cap] w (BuildP w ts) := by
  have CG := Lib.hid (good_any' a n cap ts w hh hn (fun t ht => by have := hs t ht; omega))
  rw [hv] at CG
  have OK := Lib.hid (ok_good hv hs)
  have HH := Lib.hid hh
  have hl := hh.len
  have HL := Lib.hid hl
  have hmm := @run_makeMap Try.prog
  clear hh hs hv hl
  go_enter Try.func14, Try.ntmps14
  go_wp2_with fail
  refine CG.out.mono ?_
  rintro e w1 ⟨rfl, hb⟩
  have B1 := Lib.hid hb
  clear hb CG
  go_upto_region 5 with fail
  have Q0 := Lib.hid (qb_start w1 58 61)
  obtain ⟨w2, hw2⟩ : ∃ w2, (((w1.alloc (Obj.cells #[Value.slice none 0 0] 58)).alloc (Obj.map #[] 0)).alloc (Obj.cells #[Value.pointer (some { block := w1.heap.size, off := 0 }), Value.map (some (w1.heap.size + 1))] 61)) = w2 := ⟨_, rfl⟩
  have B2 := Lib.hid (show Below w.heap.size w w2 from by
    rw [← hw2]
    have z1 := B1.out.size
    exact B1.out.trans (((below_one _ _).mono z1).trans (((below_one _ _).mono (by simp; omega)).trans ((below_one _ _).mono (by simp; omega)))))
  have hz2 : w2.heap.size = w1.heap.size + 3 := by rw [← hw2]; simp
  rw [hw2] at Q0
  rw [hw2]
  have CR := Lib.hid (reach_any (w1.heap.size + 1 + 1) w1.heap.size (w1.heap.size + 1) 12 [] ts a cap _ w2 Q0.out OK.out (HL.out.symm ▸ (HH.out.below B2.out)) (fun h0 fb fo e => by
    rw [HL.out] at h0
    obtain ⟨b, o, e2, hc2⟩ := HH.out.at h0
    have h3 := lt_of_cell (hc2 0 h0)
    rw [e2] at e
    injection e with e; injection e with e4 e5
    have z1 := B1.out.size
    exact ⟨by omega, by omega⟩) (by rw [HL.out]; exact hc) (by
    have h3 := wt_good ts OK.out.hi
    have h4 := OK.out.n
    simp only [List.length_nil]; omega))
  rw [HL.out] at CR
  clear hw2 Q0
  go_wp2_with fail
  refine CR.out.mono ?_
  rintro e w3 ⟨rfl, S3, ⟨na, nc, NL, hB⟩, hs3, ht3⟩
  have B := Lib.hid hB; have T3 := Lib.hid ht3; have S3H := Lib.hid hs3
  have c0 := hB.c0
  have z1 := B1.out.size
  clear hB ht3 hs3 CR
  go_wp2_with fail
  go_ret2
  refine ⟨_, S3, rfl, ⟨na, nc, NL, B.out.G, B.out.eq⟩, fun k hk => ?_, B2.out.trans (T3.out.below (fun k hk => by omega) (by omega))⟩
  rcases S3H.out k hk with x | x
  · omega
  · omega
end Go.Proofs.Ytlcmndbnknifhaa
/- graph: has, Nodes, Final, Edges, Next -/
namespace Go.Proofs.Ytlcmndbnknifhaa
open Go.RowKit
set_option linter.unusedVariables false
set_option maxRecDepth 20000
theorem map_eqG : ∀ (NL : List NM) (st : List GN), NL.map nmP = st.map gnP → NL.length = st.length ∧ ∀ n, n < st.length → (NL.getD n nm0).fin = (st.getD n gn0).final ∧ (NL.getD n nm0).es = (st.getD n gn0).edges
  | [], [], _ => ⟨rfl, fun n h => by simp at h⟩
  | [], g :: st, h => by simp at h
  | x :: NL, [], h => by simp at h
  | x :: NL, g :: st, h => by
    simp only [List.map_cons, List.cons.injEq] at h
    obtain ⟨h1, h2⟩ := map_eqG NL st h.2
    refine ⟨by simp [h1], fun n hn => ?_⟩
    have h3 := h.1
    unfold nmP gnP at h3
    cases n with
    | zero => exact ⟨congrArg Prod.fst h3, congrArg Prod.snd h3⟩
    | succ n => exact h2 n (by simpa using hn)
theorem GAt.len {g : Nat} {st : List GN} {w : World} {S : Nat → Prop} (h : GAt g st w S) : ∃ na nc, w.cell? ⟨g, 0, none⟩ = some (.slice na st.length nc) := by
  obtain ⟨na, nc, NL, G, e⟩ := h
  have := G.c
  rw [(map_eqG _ _ e).1] at this
  exact ⟨na, nc, this⟩
theorem GAt.node {g : Nat} {st : List GN} {w : World} {S : Nat → Prop} (h : GAt g st w S) {n : Nat} (hn : n < st.length) : ∃ q nc ea ec, w.cell? ⟨g, 0, none⟩ = some (.slice (some ⟨q, 0, none⟩) st.length nc) ∧ w.cell? ⟨q, n * 2, none⟩ = some (.bool (st.getD n gn0).final) ∧ w.cell? ⟨q, n * 2 + 1, none⟩ = some (.slice ea (st.getD n gn0).edges.length ec) ∧ HoldsEd w ea (st.getD n gn0).edges.length (st.getD n gn0).edges ∧ (ea = none → (st.getD n gn0).edges.length = 0 ∧ ec = 0) := by
  obtain ⟨na, nc, NL, G, e⟩ := h
  obtain ⟨e1, e2⟩ := map_eqG _ _ e
  have c := G.c
  obtain ⟨q, rfl, c0, c1⟩ := G.at (i := n) (by omega)
  obtain ⟨e3, e4⟩ := e2 n hn
  rw [e1] at c
  rw [e3] at c0
  have ei := G.e _ (mem_nm (show n < NL.length by omega))
  unfold EdIn at ei
  rw [e4] at c1 ei
  exact ⟨q, nc, _, _, c, c0, c1, ei.1, ei.2.1⟩
def hasG (st : List GN) (n : Int) : Bool := decide (0 ≤ n ∧ n < (st.length : Int))
theorem hasG_no {st : List GN} {n : Int} (h : hasG st n = false) : n < 0 ∨ (st.length : Int) ≤ n := by
  simp only [hasG, decide_eq_false_iff_not] at h; omega
theorem hasG_yes {st : List GN} {n : Int} (h : hasG st n = true) : ∃ k : Nat, n = k ∧ k < st.length := by
  simp only [hasG, decide_eq_true_eq] at h
  exact ⟨n.toNat, by omega, by omega⟩
theorem gHas_nil (n : Int) (w : World) : Calls Try.prog 48 #[.pointer none, .int .i64 n] w fun e w' => e = .returned (.bool false) ∧ w = w' := by
  go_enter Try.func48, Try.ntmps48
  go_wp2_with fail
  go_ret
  exact ⟨rfl, rfl⟩
theorem gHas_any (g : Nat) (st : List GN) (S : Nat → Prop) (n : Int) (w : World) (h : GAt g st w S) : Calls Try.prog 48 #[.pointer (some ⟨g, 0, none⟩), .int .i64 n] w fun e w' => e = .returned (.bool (hasG st n)) ∧ w = w' := by
  obtain ⟨na, nc, c⟩ := h.len
  by_cases h0 : n < 0
  · have d0 : decide (n ≥ 0) = false := decide_eq_false (by omega)
    have e : hasG st n = false := decide_eq_false (by omega)
    rw [e]
    clear e
    go_enter Try.func48, Try.ntmps48
    go_wp2_with fail
    go_ret
    exact ⟨rfl, rfl⟩
  · have d0 : decide (n ≥ 0) = true := decide_eq_true (by omega)
    have e : hasG st n = decide (n < (st.length : Int)) := by unfold hasG; congr 1; simp; omega
    rw [e]
    clear e
    go_enter Try.func48, Try.ntmps48
    go_wp2_with fail
    go_ret
    exact ⟨rfl, rfl⟩
theorem gNodes_nil (w : World) : Calls Try.prog 25 #[.pointer none] w fun e w' => e = .returned (.int .i64 0) ∧ w = w' := by
  go_enter Try.func25, Try.ntmps25
  go_wp2_with fail
  go_ret
  exact ⟨rfl, rfl⟩
theorem gNodes_any (g : Nat) (st : List GN) (S : Nat → Prop) (w : World) (h : GAt g st w S) : Calls Try.prog 25 #[.pointer (some ⟨g, 0, none⟩)] w fun e w' => e = .returned (.int .i64 st.length) ∧ w = w' := by
  obtain ⟨na, nc, c⟩ := h.len
  go_enter Try.func25, Try.ntmps25
  go_wp2_with fail
  go_ret
  exact ⟨rfl, rfl⟩
def finG (st : List GN) (n : Int) : Bool := hasG st n && (st.getD n.toNat gn0).final
theorem gFinal_nil (n : Int) (w : World) : Calls Try.prog 34 #[.pointer none, .int .i64 n] w fun e w' => e = .returned (.bool false) ∧ w = w' := by
  have CH := gHas_nil n w
  go_enter Try.func34, Try.ntmps34
  go_wp2_with fail
  refine CH.mono ?_
  rintro e w1 ⟨rfl, rfl⟩
  go_wp2_with fail
  go_ret
  exact ⟨rfl, rfl⟩
theorem gFinal_any (g : Nat) (st : List GN) (S : Nat → Prop) (n : Int) (w : World) (h : GAt g st w S) : Calls Try.prog 34 #[.pointer (some ⟨g, 0, none⟩), .int .i64 n] w fun e w' => e = .returned (.bool (finG st n)) ∧ w = w' := by
  have CH := gHas_any g st S n w h
  unfold finG
  cases hb : hasG st n with
  | false =>
    rw [hb] at CH
    go_enter Try.func34, Try.ntmps34
    go_wp2_with fail
    refine CH.mono ?_
    rintro e w1 ⟨rfl, rfl⟩
    go_wp2_with fail
    go_ret
    exact ⟨rfl, rfl⟩
  | true =>
    rw [hb] at CH
    obtain ⟨k, rfl, hk⟩ := hasG_yes hb
    obtain ⟨q, nc, ea, ec, c0, c1, c2, -, -⟩ := h.node hk
    have i1 : (0 : Int) ≤ (k : Int) := by omega
    have i2 : (k : Int) < (st.length : Int) := by omega
    have e : (k : Int).toNat = k := by omega
    rw [e, Bool.true_and]
    obtain ⟨fb, hfb⟩ : ∃ b, (st.getD k gn0).final = b := ⟨_, rfl⟩
    rw [hfb] at c1 ⊢
    clear e c2 hfb
    go_enter Try.func34, Try.ntmps34
    go_wp2_with fail
    refine CH.mono ?_
    rintro e w1 ⟨rfl, rfl⟩
    go_wp2_with fail
    go_ret
    exact ⟨rfl, rfl⟩
def edgesG (st : List GN) (n : Int) : List EdP := if hasG st n then (st.getD n.toNat gn0).edges else []
def RetEd (w : World) (es : List EdP) (e : Ending) (w' : World) : Prop := ∃ a c, e = .returned (.slice a es.length c) ∧ w'.ownsRow w.heap.size 67 2 (.slice a es.length c) es.length (edsV es) ∧ Below w.heap.size w w'
theorem retEd_own {w w' : World} {a : Option Addr} {c n : Nat} {ys : List EdP} (hn : ys.length = n) (hh : w'.ownsRow w.heap.size 67 2 (.slice a n c) n (edsV ys)) (hb : Below w.heap.size w w') (v : Value) (hv : v = .slice a n c) : RetEd w ys (.returned v) w' := by
  subst hn hv
  exact ⟨a, c, rfl, hh, hb⟩
theorem cloneEd_any (a : Option Addr) (n cap : Nat) (l : List EdP) (w : World) (hh : HoldsEd w a n l) (hnil : a = none → n = 0 ∧ cap = 0) (hn : n ≤ 50000) :
    Calls Try.prog 49 #[.slice a n cap] w (RetEd w l) := by
  obtain ⟨i0, hi, hz0, hz1, hz2⟩ := info_parts edgeG_info
  have hll := hh.len
  cases a with
  | none =>
    obtain ⟨rfl, rfl⟩ := hnil rfl
    obtain rfl : l = [] := List.eq_nil_of_length_eq_zero hll
    have he := fun w => Lib.run_eql_slice_nil (P := Try.prog) w 49 67 none 0 0 0 0 Try.underlying49
    go_enter Try.func49, Try.ntmps49
    go_wp2_with fail
    go_ret
    exact retEd_own rfl (World.ownsRow_nil _ _ _ _) (Below.refl _ _) _ rfl
  | some ad =>
    have hnews : ∀ ad', (some ad : Option Addr) = some ad' → ∀ j u, (edsV l)[j]? = some u → (w.alloc (.cells #[] 67)).cell? (ad'.add j) = some u :=
      HoldsEd.cellsAny hh (World.grownBy_alloc w _ none)
    have HN := Lib.hid hnews
    have hown : (w.alloc (.cells #[] 67)).ownsRow w.heap.size 67 2 (.slice (some ⟨w.heap.size, 0, none⟩) 0 0) 0 [] := World.ownsRow_lit w #[] 0 (Nat.le_refl _) (by unfold maxLen; omega) rfl
    have HO := Lib.hid hown
    clear hnews hown hh
    have he := fun w => Lib.run_eql_slice_nil (P := Try.prog) w 49 67 (some ad) n cap 0 0 Try.underlying49
    go_enter Try.func49, Try.ntmps49
    go_wp2_with (at_builtin; refine wpList_append_any rfl (.tmp 5) (.tmp 6) 49 rfl w.heap.size 67 i0 _ 2 16 Try.underlying49 hi hz0 hz1 hz2 rfl (by decide) _ 0 [] rfl HO.out _ n cap (edsV l) rfl (some_none _) (by rw [edsV_len, hll]) HN.out (edsV_one _) (by unfold maxLen; omega) (by omega) (by simp) ?_; intro a3 c3 w3 hown3 hb3 hnil3)
    rw [Nat.zero_add, List.nil_append] at hown3
    go_ret
    exact retEd_own hll hown3 ((below_one w (.cells #[] 67)).trans (hb3)) _ (by simp)
theorem gEdges_nil (n : Int) (w : World) : Calls Try.prog 26 #[.pointer none, .int .i64 n] w fun e w' => e = .returned (.slice none 0 0) ∧ w = w' := by
  have CH := gHas_nil n w
  go_enter Try.func26, Try.ntmps26
  go_wp2_with fail
  refine CH.mono ?_
  rintro e w1 ⟨rfl, rfl⟩
  go_wp2_with fail
  go_ret
  exact ⟨rfl, rfl⟩
theorem gEdges_any (g : Nat) (st : List GN) (S : Nat → Prop) (n : Int) (w : World) (h : GAt g st w S) (hE : ∀ x ∈ st, x.edges.length ≤ 1000) : Calls Try.prog 26 #[.pointer (some ⟨g, 0, none⟩), .int .i64 n] w (RetEd w (edgesG st n)) := by
  have CH := gHas_any g st S n w h
  unfold edgesG
  cases hb : hasG st n with
  | false =>
    rw [hb] at CH
    rw [if_neg (by simp)]
    go_enter Try.func26, Try.ntmps26
    go_wp2_with fail
    refine CH.mono ?_
    rintro e w1 ⟨rfl, rfl⟩
    go_wp2_with fail
    go_ret
    exact retEd_own rfl (World.ownsRow_nil _ _ _ _) (Below.refl _ _) _ rfl
  | true =>
    rw [hb] at CH
    rw [if_pos rfl]
    obtain ⟨k, rfl, hk⟩ := hasG_yes hb
    obtain ⟨q, nc, ea, ec, c0, c1, c2, c3, c4⟩ := h.node hk
    have i1 : (0 : Int) ≤ (k : Int) := by omega
    have i2 : (k : Int) < (st.length : Int) := by omega
    have e : (k : Int).toNat = k := by omega
    have hx : st.getD k gn0 ∈ st := by rw [List.getD_eq_getElem?_getD, List.getElem?_eq_getElem hk]; simp
    have hle := hE _ hx
    rw [e]
    obtain ⟨es, hes⟩ : ∃ b, (st.getD k gn0).edges = b := ⟨_, rfl⟩
    rw [hes] at c2 c3 c4 hle ⊢
    have CC := Lib.hid (cloneEd_any ea es.length ec es w c3 c4 (by omega))
    clear e c1 hes hx c3 c4
    go_enter Try.func26, Try.ntmps26
    go_wp2_with fail
    refine CH.mono ?_
    rintro e w1 ⟨rfl, rfl⟩
    go_wp2_with fail
    refine CC.out.mono ?_
    rintro e w2 ⟨a, c, rfl, ho, hb2⟩
    go_wp2_with fail
    go_ret
    exact ⟨a, c, rfl, ho, hb2⟩
end Go.Proofs.Ytlcmndbnknifhaa
/- pack: Encode, of the graph of any nodes -/
namespace Go.Proofs.Ytlcmndbnknifhaa
open Go.RowKit
set_option linter.unusedVariables false
set_option maxRecDepth 20000
def edB (e : EdP) : List Nat := Cod.bytesOf (bitsV e.r) 4 ++ Cod.bytesOf (bitsV e.dst) 2
def finN (x : GN) : Nat := if x.final then 1 else 0
def ndB (x : GN) : List Nat := [finN x] ++ (Cod.bytesOf x.edges.length 2 ++ x.edges.flatMap edB)
def bodyB (st : List GN) : List Nat := [73, 78, 75, 49] ++ (Cod.bytesOf st.length 2 ++ st.flatMap ndB)
def imgB (st : List GN) : List Nat := sealB (bodyB st)
theorem edB_lt (e : EdP) : ∀ b ∈ edB e, b < 256 := fun b hb => by
  rcases List.mem_append.1 hb with hb | hb <;> exact Cod.bytesOf_lt _ _ b hb
theorem ndB_lt (x : GN) : ∀ b ∈ ndB x, b < 256 := fun b hb => by
  rcases List.mem_append.1 hb with hb | hb
  · have h1 : b = finN x := by simpa using hb
    rw [h1]; unfold finN; split <;> decide
  · rcases List.mem_append.1 hb with hb | hb
    · exact Cod.bytesOf_lt _ _ b hb
    · obtain ⟨e, -, he⟩ := List.mem_flatMap.1 hb
      exact edB_lt e b he
theorem bodyB_lt (st : List GN) : ∀ b ∈ bodyB st, b < 256 := fun b hb => by
  rcases List.mem_append.1 hb with hb | hb
  · simp at hb; omega
  · rcases List.mem_append.1 hb with hb | hb
    · exact Cod.bytesOf_lt _ _ b hb
    · obtain ⟨e, -, he⟩ := List.mem_flatMap.1 hb
      exact ndB_lt e b he
/-- an image, and no error -/
def RetE (w : World) (bs : List Nat) (e : Ending) (w' : World) : Prop :=
  ∃ a c, e = .returned (.tuple #[.slice a bs.length c, .int .i64 0]) ∧ w'.ownsRow w.heap.size 5 1 (.slice a bs.length c) bs.length (bytesV bs) ∧ Below w.heap.size w w' ∧ (a = none → bs.length = 0 ∧ c = 0)
theorem base_less9 {w : World} {B B' : Nat} {e : TypeId} {size n : Nat} {v : Value} {xs : List Value} (h : w.ownsRow B e size v n xs) (hB : B' ≤ B) : w.ownsRow B' e size v n xs := by
  obtain ⟨h1, h2⟩ := h
  refine ⟨h1, ?_⟩
  rcases h2 with h | ⟨g, cap, cur, hv, hge, r⟩
  · exact .inl h
  · exact .inr ⟨g, cap, cur, hv, Nat.le_trans hB hge, r⟩
theorem put9 (v : Int) (s : Nat) (hs : s ≤ 8) (w : World) : Calls Try.prog 32 #[.slice none 0 0, .int .i64 v, .int .i64 (s : Int)] w fun e w' => ∃ a c, e = .returned (.slice a s c) ∧ HoldsV w' a s (bytesV (Cod.bytesOf (bitsV v) s)) ∧ (a = none → s = 0 ∧ c = 0) ∧ Below w.heap.size w w' := by
  refine (put_any none 0 0 [] v (s : Int) w (holdsB_nil _ _) (fun _ => ⟨rfl, rfl⟩) (by omega)).mono ?_
  rintro e w' ⟨a, c, rfl, h1, h2, h3⟩
  have e1 : sizeV (s : Int) = s := by unfold sizeV; omega
  rw [e1, List.nil_append] at h1 h3 ⊢
  rw [Cod.bytesOf_length] at h1 h3 ⊢
  exact ⟨a, c, rfl, owns_holds h1, (owns_none h1).1, h2⟩
theorem getD_edges {st : List GN} {j : Nat} (h : j < st.length) : st.drop j = st.getD j gn0 :: st.drop (j + 1) := by
  rw [List.drop_eq_getElem_cons h, List.getD_eq_getElem?_getD, List.getElem?_eq_getElem h]; rfl
theorem drop_ed9 {es : List EdP} {j : Nat} (h : j < es.length) : es.drop j = es.getD j ed0 :: es.drop (j + 1) := by
  rw [List.drop_eq_getElem_cons h, List.getD_eq_getElem?_getD, List.getElem?_eq_getElem h]; rfl
/-- bytes that grow, beside edges that stay -/
structure OBK (w0 : World) (bs : List Nat) (a : Option Addr) (c : Nat) (ea : Option Addr) (es : List EdP) (w : World) : Prop where
  o : OB w0 bs a c w
  e : HoldsEd w ea es.length es
  d : ∀ g eb eo, a = some ⟨g, 0, none⟩ → ea = some ⟨eb, eo, none⟩ → 0 < es.length → g ≠ eb
theorem OBK.more {w0 w w' : World} {bs : List Nat} {a : Option Addr} {c : Nat} {ea : Option Addr} {es : List EdP} (h : OBK w0 bs a c ea es w) (hb : Below w.heap.size w w') : OBK w0 bs a c ea es w' := ⟨h.o.more hb, h.e.below hb, h.d⟩
theorem own_at9 {w : World} {B : Nat} {e : TypeId} {size n c k : Nat} {a : Option Addr} {xs : List Value} (h : w.ownsRow B e size (.slice a n c) n xs) (hk : (Value.slice a n c).ownBlock = some k) : a = some ⟨k, 0, none⟩ := by
  rcases Joins.ownsRow_forms h with ⟨e1, _⟩ | ⟨g, cap, e1⟩
  · injection e1 with e2; subst e2; cases hk
  · injection e1 with e2; subst e2; injection hk with hk; subst hk; rfl
theorem OBK.grow {w0 w w8 : World} {bs : List Nat} {a : Option Addr} {c g c' N : Nat} {ea : Option Addr} {es : List EdP} (h : OBK w0 bs a c ea es w) (bs' : List Nat) (hlen : bs'.length = N) (hown : w8.ownsRow w0.heap.size 5 1 (.slice (some ⟨g, 0, none⟩) N c') N (bytesV bs')) (hg : w.grownBy w8 (Value.slice a bs.length c).ownBlock) (hat : (Value.slice a bs.length c).ownBlock = some g ∨ g = w.heap.size) : OBK w0 bs' (some ⟨g, 0, none⟩) c' ea es w8 := by
  subst hlen
  have lt : ∀ eb eo, ea = some ⟨eb, eo, none⟩ → 0 < es.length → eb < w.heap.size := fun eb eo e1 h0 => by
    obtain ⟨b, o, e2, hc⟩ := h.e.at h0
    rw [e1] at e2; injection e2 with e2; injection e2 with e2; subst e2
    exact lt_of_cell (hc 0 h0).1
  refine ⟨⟨hown, h.o.2.grown hg h.o.2.size (fun k e => (h.o.1.lt k e).1)⟩, ?_, fun g2 eb eo e1 e2 h0 => ?_⟩
  · rcases Nat.eq_zero_or_pos es.length with h0 | h0
    · exact ⟨rfl, fun h1 => by omega⟩
    · exact holdsEd_blocks h.e fun b o e1 => hg.block b (lt b o e1 h0) fun e2 => h.d b b o (own_at9 h.o.1 e2.symm) e1 h0 rfl
  · injection e1 with e1; injection e1 with e1; subst e1
    rcases hat with e3 | e3
    · exact h.d _ eb eo (own_at9 h.o.1 e3) e2 h0
    · have := lt eb eo e2 h0; omega
theorem putB9 (v : Int) (s : Nat) (hs : 0 < s ∧ s ≤ 8) (w : World) : Calls Try.prog 32 #[.slice none 0 0, .int .i64 v, .int .i64 (s : Int)] w fun e w' => ∃ q c, e = .returned (.slice (some ⟨q, 0, none⟩) s c) ∧ (∀ (j : Nat) u, (bytesV (Cod.bytesOf (bitsV v) s))[j]? = some u → w'.cell? ((⟨q, 0, none⟩ : Addr).add j) = some u) ∧ Below w.heap.size w w' := by
  refine (put_any none 0 0 [] v (s : Int) w (holdsB_nil _ _) (fun _ => ⟨rfl, rfl⟩) (by omega)).mono ?_
  rintro e w' ⟨a, c, rfl, h1, h2, h3⟩
  have e1 : sizeV (s : Int) = s := by unfold sizeV; omega
  rw [e1, List.nil_append] at h1 h3 ⊢
  rw [Cod.bytesOf_length] at h1 h3 ⊢
  obtain ⟨q, cap, e2⟩ := Joins.ownsRow_form h1 hs.1
  injection e2 with e2
  subst e2
  exact ⟨q, c, rfl, (owns_holds h1).cells (World.grownBy.refl _ _) _ rfl, h2⟩
set_option maxHeartbeats 6400000 in
set_option maxRecDepth 100000 in
theorem encode_any (g : Nat) (st : List GN) (S : Nat → Prop) (w : World) (h : GAt g st w S) (hE : ∀ x ∈ st, x.edges.length ≤ 1000) (hR : ∀ x ∈ st, ∀ e ∈ x.edges, 0 ≤ e.r ∧ e.r ≤ 2147483647) (hS : (bodyB st).length ≤ 524000) (hL : st.length ≤ 60000) :
    Calls Try.prog 15 #[.pointer (some ⟨g, 0, none⟩)] w (RetE w (imgB st)) := by
  obtain ⟨i0, hi, hz0, hz1, hz2⟩ := info_parts u8_info
  have HG := Lib.hid h; have HE := Lib.hid hE; have HR := Lib.hid hR; have HS := Lib.hid hS
  obtain ⟨L, hLL⟩ : ∃ L, st.length = L := ⟨_, rfl⟩
  have HL := Lib.hid hLL
  rw [hLL] at hL
  have CN := Lib.hid (fun w' (hb : Below w.heap.size w w') => (show Calls Try.prog 25 #[.pointer (some ⟨g, 0, none⟩)] w' fun e w'' => e = .returned (.int .i64 L) ∧ w' = w'' from HL.out ▸ gNodes_any g st S w' ((gAt_ok g st).below HG.out hb)))
  clear h hE hR hS hLL
  go_enter Try.func15, Try.ntmps15
  go_wp2_with fail
  refine (magic_any w).mono ?_
  rintro e w1 ⟨a1, c1, rfl, o1, b1, -⟩
  have O1 := Lib.hid (show w1.ownsRow w.heap.size 5 1 (.slice a1 4 c1) 4 (bytesV [73, 78, 75, 49]) from o1); have B1 := Lib.hid b1
  clear o1 b1
  go_wp2_with fail
  with_reducible refine (CN.out w1 B1.out).mono ?_
  rintro e w2 ⟨rfl, rfl⟩
  go_wp2_with fail
  refine (put9 (L : Int) 2 (by omega) w1).mono ?_
  rintro e w2 ⟨a2, c2, rfl, v2, n2, b2⟩
  rw [bits_nat9 L (by omega)] at v2
  have V2 := Lib.hid v2; have N2 := Lib.hid n2; have O2 := Lib.hid (owns_below O1.out b2); have B2 := Lib.hid (B1.out.trans (b2.mono B1.out.size))
  clear v2 n2 b2
  go_wp2_with (at_builtin; refine wpList_append_any rfl (.tmp 12) (.tmp 15) 25 rfl w.heap.size 5 i0 (.int .u8 0) 1 1 Try.underlying25 hi hz0 hz1 hz2 rfl (by decide) _ 4 (bytesV [73, 78, 75, 49]) rfl O2.out a2 2 c2 (bytesV (Cod.bytesOf L 2)) rfl N2.out (by rw [bytesV_length, Cod.bytesOf_length]) (V2.out.cells (World.grownBy.refl _ _)) (bytesV_one _) (by unfold maxLen; omega) (by omega) B2.out.size ?_; intro a3 c3 w3 hown3 hb3 hnil3; rw [bytesV_append] at hown3)
  have O3 := Lib.hid (show OB w ([73, 78, 75, 49] ++ Cod.bytesOf L 2) a3 c3 w3 from ⟨by rw [List.length_append, Cod.bytesOf_length]; exact hown3, B2.out.trans (hb3.mono (Nat.le_refl _))⟩)
  have CN3 := Lib.hid (CN.out w3 O3.out.2)
  clear hown3 hb3 hnil3 O1 B1 V2 N2 O2 B2 CN
  go_wp2_with fail
  with_reducible refine CN3.out.mono ?_
  rintro e w4 ⟨rfl, rfl⟩
  go_wp2_with fail
  go_loopw [4, 19] (fun bv iv wr => ∃ (j : Nat) (bs : List Nat) (ba : Option Addr) (bc : Nat), j ≤ L ∧ bv = .slice ba bs.length bc ∧ iv = .int .i64 j ∧ Hid (bs ++ (st.drop j).flatMap ndB = bodyB st) ∧ Hid (OB w bs ba bc wr)) (fun _ iv _ => L - (intOf iv).toNat)
  case atStart => exact ⟨0, [73, 78, 75, 49] ++ Cod.bytesOf L 2, a3, c3, by omega, by rw [List.length_append, Cod.bytesOf_length]; rfl, rfl, Lib.hid (by rw [List.drop_zero, List.append_assoc]; unfold bodyB; rw [HL.out]), O3⟩
  case round =>
    clear O3 CN3
    obtain ⟨j, bs, ba, bc, hj, rfl, rfl, hB, hO⟩ := hrel
    have hbl : bs.length ≤ 524000 := by
      have h1 := congrArg List.length hB.out
      rw [List.length_append] at h1
      have := HS.out; omega
    by_cases hlt : j < L
    · obtain ⟨x, hx⟩ : ∃ x, st.getD j gn0 = x := ⟨_, rfl⟩
      have hmem : x ∈ st := by
        have := HL.out
        rw [← hx, List.getD_eq_getElem?_getD, List.getElem?_eq_getElem (show j < st.length by omega)]
        exact List.getElem_mem _
      have DJ := Lib.hid (show st.drop j = x :: st.drop (j + 1) from by rw [← hx]; exact getD_edges (by rw [HL.out]; exact hlt))
      have ER := Lib.hid (HR.out x hmem)
      have e1 : hasG st (j : Int) = true := by unfold hasG; rw [HL.out]; exact decide_eq_true (by omega)
      have CE := Lib.hid (gEdges_any g st S (j : Int) wr ((gAt_ok g st).below HG.out hO.out.2) HE.out)
      have CF := Lib.hid (fun w' (hb : Below w.heap.size w w') => (show Calls Try.prog 34 #[.pointer (some ⟨g, 0, none⟩), .int .i64 (j : Int)] w' fun e w'' => e = .returned (.bool x.final) ∧ w' = w'' from by
        have h1 := gFinal_any g st S (j : Int) w' ((gAt_ok g st).below HG.out hb)
        rw [show finG st (j : Int) = x.final by unfold finG; rw [e1, Bool.true_and, Int.toNat_natCast, hx]] at h1
        exact h1))
      rw [show edgesG st (j : Int) = x.edges by unfold edgesG; rw [if_pos e1, Int.toNat_natCast, hx]] at CE
      have hml := HE.out x hmem
      obtain ⟨m, hm⟩ : ∃ m, x.edges.length = m := ⟨_, rfl⟩
      have HM := Lib.hid hm
      rw [hm] at hml
      have n1 : (0 : Int) ≤ (j : Int) := by omega
      have n2 : (j : Int) < (L : Int) := by omega
      clear hx hmem e1 hm
      go_wp2_with fail
      with_reducible refine CE.out.mono ?_
      rintro e w4 ⟨ea, ec, rfl, ho, hb⟩
      have K4 := Lib.hid (show OBK w bs ba bc ea x.edges w4 from ⟨hO.out.more hb, HoldsEd.own ho, fun g1 eb eo e1 e2 h0 => by
        have h1 := (hO.out.1.lt g1 (by rw [e1]; rfl)).2
        have h2 := (ho.lt eb (by rw [e2]; rfl)).1
        omega⟩)
      rw [HM.out]
      clear ho hb CE
      go_wp2_with fail
      have CF4 := Lib.hid (CF.out w4 K4.out.o.2)
      with_reducible refine CF4.out.mono ?_
      rintro e w5 ⟨rfl, rfl⟩
      go_wp2_with fail
      refine (final_byte x.final w4).mono ?_
      rintro e w5 ⟨rfl, rfl⟩
      have FB := Lib.hid (show (if x.final then 1 else 0 : Nat) = finN x from rfl)
      rw [FB.out]
      have K4a := Lib.hid (K4.out.more (below_one w4 (.cells #[.int .u8 (finN x : Int)] 5)))
      obtain ⟨fb, hfb⟩ : ∃ fb, finN x = fb := ⟨_, rfl⟩
      have HFB := Lib.hid hfb
      rw [hfb] at K4a ⊢
      have O4a := Lib.hid K4a.out.o.1
      have Z4 := K4.out.o.2.size
      clear hfb FB
      go_wp2_with (at_builtin; refine wpList_append_lies _ rfl (.tmp 25) (.tmp 30) 25 rfl w.heap.size 5 i0 (.int .u8 0) 1 1 Try.underlying25 hi hz0 hz1 hz2 rfl (by decide) (.slice ba bs.length bc) bs.length (bytesV bs) (by rfl) O4a.out ⟨w4.heap.size, 0, none⟩ 1 1 [.int .u8 (fb : Int)] (by rfl) (by rfl) (World.news_of_block (cs := #[.int .u8 (fb : Int)]) (t := 5) (fr := (0, 0)) (heap_alloc_new w4 _)) (by simp [Value.oneCell']) (by decide) (by unfold maxLen; omega) (by omega) (by simp; omega) (w4.heap.size + 1) (by simp) ?_; intro g6 c6 w6 hown6 hgrow6 hat6 hlt6)
      have K6 := Lib.hid (K4a.out.grow (bs ++ [fb]) (N := bs.length + 1) (by simp) (by rw [← bytesV_append]; exact hown6) hgrow6 (hat6.imp id (fun e => by rw [e]; simp)))
      clear hown6 hgrow6 hat6 hlt6 K4a O4a
      refine (putB9 (m : Int) 2 (by omega) w6).mono ?_
      rintro e w7 ⟨q7, c7, rfl, v7, b7⟩
      rw [bits_nat9 m (by omega)] at v7
      have V7 := Lib.hid v7
      have K7 := Lib.hid (K6.out.more b7)
      have O7 := Lib.hid (show w7.ownsRow w.heap.size 5 1 (.slice (some ⟨g6, 0, none⟩) (bs.length + 1) c6) (bs.length + 1) (bytesV (bs ++ [fb])) from by
        have h1 := K7.out.o.1
        rw [List.length_append] at h1
        exact h1)
      clear v7 b7 K6
      go_wp2_with (at_builtin; refine wpList_append_lies _ rfl (.tmp 32) (.tmp 35) 25 rfl w.heap.size 5 i0 (.int .u8 0) 1 1 Try.underlying25 hi hz0 hz1 hz2 rfl (by decide) (.slice (some ⟨g6, 0, none⟩) (bs.length + 1) c6) (bs.length + 1) (bytesV (bs ++ [fb])) (by rfl) O7.out ⟨q7, 0, none⟩ 2 c7 (bytesV (Cod.bytesOf m 2)) (by rfl) (by rfl) V7.out (bytesV_one _) (by decide) (by unfold maxLen; omega) (by omega) K7.out.o.2.size w7.heap.size rfl ?_; intro g8 c8 w8 hown8 hgrow8 hat8 hlt8)
      have K8 := Lib.hid (K7.out.grow (bs ++ [fb] ++ Cod.bytesOf m 2) (N := bs.length + 1 + 2) (by rw [List.length_append, List.length_append, Cod.bytesOf_length]; rfl) (by rw [← bytesV_append]; exact hown8) (by rw [List.length_append]; exact hgrow8) (by rw [List.length_append]; exact hat8))
      have BD := Lib.hid (show (bs ++ [fb] ++ Cod.bytesOf m 2) ++ ((x.edges.drop 0).flatMap edB ++ (st.drop (j + 1)).flatMap ndB) = bodyB st from by
        rw [← hB.out, DJ.out, List.drop_zero, List.flatMap_cons]
        unfold ndB
        rw [HFB.out, HM.out]
        simp only [List.append_assoc])
      clear hown8 hgrow8 hat8 hlt8 K7 O7 V7 hO hB
      go_wp2_with fail
      go_loopw [4, 39] (fun bv iv wq => ∃ (k : Nat) (cs : List Nat) (ba : Option Addr) (bc : Nat), k ≤ m ∧ bv = .slice ba cs.length bc ∧ iv = .int .i64 k ∧ Hid (cs ++ ((x.edges.drop k).flatMap edB ++ (st.drop (j + 1)).flatMap ndB) = bodyB st) ∧ Hid (OBK w cs ba bc ea x.edges wq)) (fun _ iv _ => m - (intOf iv).toNat)
      case atStart => exact ⟨0, bs ++ [fb] ++ Cod.bytesOf m 2, _, _, by omega, by rw [List.length_append, List.length_append, Cod.bytesOf_length]; rfl, rfl, BD, K8⟩
      case round =>
        clear K8 BD
        obtain ⟨k, cs, ba, bc, hk, rfl, rfl, hB, hK⟩ := hrel
        rename World => wq
        have hcl : cs.length ≤ 524000 := by
          have h1 := congrArg List.length hB.out
          rw [List.length_append] at h1
          have := HS.out; omega
        by_cases hkm : k < m
        · have hpos : 0 < x.edges.length := by rw [HM.out]; omega
          obtain ⟨eb, eo, rfl, hcc⟩ := hK.out.e.at hpos
          obtain ⟨y0, y1⟩ := hcc k (by rw [HM.out]; exact hkm)
          obtain ⟨y, hy⟩ : ∃ y, x.edges.getD k ed0 = y := ⟨_, rfl⟩
          rw [hy] at y0 y1
          have DK := Lib.hid (show x.edges.drop k = y :: x.edges.drop (k + 1) from by rw [← hy]; exact drop_ed9 (by rw [HM.out]; exact hkm))
          obtain ⟨yr, yr2⟩ := ER.out y (by rw [← hy, List.getD_eq_getElem?_getD, List.getElem?_eq_getElem (show k < x.edges.length by rw [HM.out]; exact hkm)]; exact List.getElem_mem _)
          have n3 : (0 : Int) ≤ (k : Int) := by omega
          have n4 : (k : Int) < (m : Int) := by omega
          have K5 := Lib.hid (hK.out.more (below_one wq (.cells #[.int .i32 y.r, .int .i64 y.dst] 67)))
          have X5 := Lib.hid (show (wq.alloc (.cells #[.int .i32 y.r, .int .i64 y.dst] 67)).cell? ⟨wq.heap.size, 1, none⟩ = some (.int .i64 y.dst) from by rw [cell_alloc rfl]; rfl)
          have XN := Lib.hid (show some wq.heap.size ≠ (Value.slice ba cs.length bc).ownBlock from fun e => by
            have h1 := (hK.out.o.1.lt wq.heap.size e.symm).2
            omega)
          clear hcc hy
          go_wp2_with fail
          refine (putB9 y.r 4 (by omega) _).mono ?_
          rintro e w5 ⟨q5, c5, rfl, v5, b5⟩
          have V5 := Lib.hid v5
          have K5b := Lib.hid (K5.out.more b5)
          have O5 := Lib.hid K5b.out.o.1
          have X6 := Lib.hid ((b5.cell (p := ⟨wq.heap.size, 1, none⟩) (lt_of_cell X5.out)).trans X5.out)
          have Z5 := K5b.out.o.2.size
          clear v5 b5 K5
          go_wp2_with (at_builtin; refine wpList_append_lies _ rfl (.tmp 43) (.tmp 47) 25 rfl w.heap.size 5 i0 (.int .u8 0) 1 1 Try.underlying25 hi hz0 hz1 hz2 rfl (by decide) (.slice ba cs.length bc) cs.length (bytesV cs) (by rfl) O5.out ⟨q5, 0, none⟩ 4 c5 (bytesV (Cod.bytesOf (bitsV y.r) 4)) (by rfl) (by rfl) V5.out (bytesV_one _) (by decide) (by unfold maxLen; omega) (by omega) Z5 w5.heap.size rfl ?_; intro g6 c6 w6 hown6 hgrow6 hat6 hlt6; have x6 : w6.cell? ⟨wq.heap.size, 1, none⟩ = some (.int .i64 y.dst) := (hgrow6.cell_far ⟨wq.heap.size, 1, none⟩ (lt_of_cell X6.out) XN.out).trans X6.out)
          have K6 := Lib.hid (K5b.out.grow (cs ++ Cod.bytesOf (bitsV y.r) 4) (N := cs.length + 4) (by rw [List.length_append, Cod.bytesOf_length]) (by rw [← bytesV_append]; exact hown6) hgrow6 hat6)
          clear hown6 hgrow6 hat6 hlt6 K5b O5 V5
          refine (putB9 y.dst 2 (by omega) w6).mono ?_
          rintro e w7 ⟨q7, c7, rfl, v7, b7⟩
          have V7 := Lib.hid v7
          have K7 := Lib.hid (K6.out.more b7)
          have O7 := Lib.hid (show w7.ownsRow w.heap.size 5 1 (.slice (some ⟨g6, 0, none⟩) (cs.length + 4) c6) (cs.length + 4) (bytesV (cs ++ Cod.bytesOf (bitsV y.r) 4)) from by
            have h1 := K7.out.o.1
            rw [List.length_append, Cod.bytesOf_length] at h1
            exact h1)
          clear v7 b7 K6 x6
          go_wp2_with (at_builtin; refine wpList_append_lies _ rfl (.tmp 49) (.tmp 52) 25 rfl w.heap.size 5 i0 (.int .u8 0) 1 1 Try.underlying25 hi hz0 hz1 hz2 rfl (by decide) (.slice (some ⟨g6, 0, none⟩) (cs.length + 4) c6) (cs.length + 4) (bytesV (cs ++ Cod.bytesOf (bitsV y.r) 4)) (by rfl) O7.out ⟨q7, 0, none⟩ 2 c7 (bytesV (Cod.bytesOf (bitsV y.dst) 2)) (by rfl) (by rfl) V7.out (bytesV_one _) (by decide) (by unfold maxLen; omega) (by omega) K7.out.o.2.size w7.heap.size rfl ?_; intro g8 c8 w8 hown8 hgrow8 hat8 hlt8)
          have K8 := Lib.hid (K7.out.grow (cs ++ Cod.bytesOf (bitsV y.r) 4 ++ Cod.bytesOf (bitsV y.dst) 2) (N := cs.length + 4 + 2) (by rw [List.length_append, List.length_append, Cod.bytesOf_length, Cod.bytesOf_length]) (by rw [← bytesV_append]; exact hown8) (by rw [List.length_append, Cod.bytesOf_length]; exact hgrow8) (by rw [List.length_append, Cod.bytesOf_length]; exact hat8))
          have BD := Lib.hid (show (cs ++ Cod.bytesOf (bitsV y.r) 4 ++ Cod.bytesOf (bitsV y.dst) 2) ++ ((x.edges.drop (k + 1)).flatMap edB ++ (st.drop (j + 1)).flatMap ndB) = bodyB st from by
            rw [← hB.out, DK.out, List.flatMap_cons]
            unfold edB
            simp only [List.append_assoc])
          clear hown8 hgrow8 hat8 hlt8 K7 O7 V7
          go_roundw
          case rel => exact ⟨k + 1, cs ++ Cod.bytesOf (bitsV y.r) 4 ++ Cod.bytesOf (bitsV y.dst) 2, _, _, by omega, by rw [List.length_append, List.length_append, Cod.bytesOf_length, Cod.bytesOf_length], by go_num, BD, K8⟩
          case measure => simp [intOf] <;> omega
        · obtain rfl : k = m := by omega
          have BE := Lib.hid (show cs ++ (st.drop (j + 1)).flatMap ndB = bodyB st from by
            rw [← hB.out, show x.edges.drop k = [] from List.drop_of_length_le (by rw [HM.out]; exact Nat.le_refl _)]; rfl)
          have OE := Lib.hid hK.out.o
          clear hB hK
          go_wp2_with fail
          go_roundw
          case rel => exact ⟨j + 1, cs, ba, bc, by omega, rfl, by go_num, BE, OE⟩
          case measure => simp [intOf] <;> omega
    · obtain rfl : j = L := by omega
      have BE := Lib.hid (show bs = bodyB st from by
        have h1 := hB.out
        rw [List.drop_of_length_le (by rw [HL.out]; omega)] at h1
        simpa using h1)
      have OE := hO.out
      have CS := Lib.hid (wSeal_any ba bs.length bc bs wr (holdsB_of_values (owns_holds OE.1) (by rw [BE.out]; exact bodyB_lt st)) (owns_none OE.1).1 (by omega))
      have IM := Lib.hid (show sealB bs = imgB st from by rw [BE.out]; rfl)
      have WB := Lib.hid OE.2
      clear OE hO hB BE
      go_wp2_with fail
      with_reducible refine CS.out.mono ?_
      rintro e w5 ⟨a5, c5, rfl, h1, h2, h3⟩
      have F := Lib.hid (show RetE w (imgB st) (.returned (.tuple #[.slice a5 (sealB bs).length c5, .int .i64 0])) w5 from by
        rw [IM.out] at h1 h3 ⊢
        exact ⟨a5, c5, rfl, base_less9 h1 WB.out.size, WB.out.trans (h2.mono WB.out.size), h3⟩)
      clear h1 h2 h3 CS
      go_wp2_with fail
      go_ret2
      exact F.out
end Go.Proofs.Ytlcmndbnknifhaa
/- pack: readNode -/
namespace Go.Proofs.Ytlcmndbnknifhaa
open Go.RowKit
set_option linter.unusedVariables false
set_option maxRecDepth 20000
theorem LN.below {w0 : World} {r : Nat} {a : Option Addr} {n cap : Nat} {bs : List Nat} {at_ : Nat} {bad : Bool} {M B : Nat} {fin : Bool} {es : List PE} {ea : Option Addr} {ec : Nat} {w w' : World} (h : LN w0 r a n cap bs at_ bad M B fin es ea ec w) (hb : Below w.heap.size w w') : LN w0 r a n cap bs at_ bad M B fin es ea ec w' := by
  have lm := lt_of_cell h.c0
  exact ⟨h.rd.turn (S := fun _ => False) (Turn.of_below hb) (fun x => x) (fun q o e x => x), (hb.cell (p := ⟨M, 0, none⟩) lm).trans h.c0, (hb.cell (p := ⟨M, 1, none⟩) lm).trans h.c1, (hb.frozen (p := ⟨M, 1, none⟩) lm).trans h.f1, owns_below h.o hb, h.ne, h.M0, (hb.cell (p := ⟨B, 0, none⟩) (lt_of_cell h.k0)).trans h.k0, (hb.cell (p := ⟨B, 1, none⟩) (lt_of_cell h.k0)).trans h.k1, fun i => (hb.frozen (p := ⟨B, i, none⟩) (lt_of_cell h.k0)).trans (h.kf i), (hb.block B (lt_of_cell h.k0)).trans h.kh, h.B0, h.MB, h.t.trans (Turn.of_below hb)⟩
theorem LN.num {w0 : World} {r : Nat} {a : Option Addr} {n cap : Nat} {bs : List Nat} {at_ at2 : Nat} {bad bad2 : Bool} {M B : Nat} {fin : Bool} {es : List PE} {ea : Option Addr} {ec : Nat} {w w' : World} (h : LN w0 r a n cap bs at_ bad M B fin es ea ec w) (hr : r < w0.heap.size) (m : RdM r a n cap bs at2 bad2 w') (t : Turn (fun k => k = r) w w') : LN w0 r a n cap bs at2 bad2 M B fin es ea ec w' := by
  have lm := lt_of_cell h.c0
  have hM : ¬ M = r := by have := h.M0; omega
  have hB : ¬ B = r := by have := h.B0; omega
  have lb := lt_of_cell h.k0
  refine ⟨m, (t.cell lm hM).trans h.c0, (t.cell lm hM).trans h.c1, (t.frozen lm hM).trans h.f1, ?_, h.ne, h.M0, (t.cell lb hB).trans h.k0, (t.cell lb hB).trans h.k1, fun i => (t.frozen lb hB).trans (h.kf i), (t.block B lb hB).trans h.kh, h.B0, h.MB, h.t.trans t⟩
  rcases h.o.2 with h1 | ⟨g, cap', cur, hv, hge, hh, x⟩
  · exact ⟨h.o.1, .inl h1⟩
  · have hl : g < w.heap.size := by
      rcases Nat.lt_or_ge g w.heap.size with h2 | h2
      · exact h2
      · rw [Array.getElem?_eq_none h2] at hh; cases hh
    exact ⟨h.o.1, .inr ⟨g, cap', cur, hv, hge, (t.block g hl (by omega)).trans hh, x⟩⟩
theorem LN.app {w0 : World} {r : Nat} {a : Option Addr} {n cap : Nat} {bs : List Nat} {at_ : Nat} {bad : Bool} {M B : Nat} {fin : Bool} {es : List PE} {ea : Option Addr} {ec g c : Nat} {x : PE} {w w8 : World} {ob : Obj} (h : LN w0 r a n cap bs at_ bad M B fin es ea ec w) (hr : r < w0.heap.size) (ha : ∀ q o, a = some ⟨q, o, none⟩ → q < w0.heap.size)
    (hown : w8.ownsRow w0.heap.size 131 2 (.slice (some ⟨g, 0, none⟩) (es.length + 1) c) (es.length + 1) (peV es ++ [.int .i64 (x.1 : Int), .int .i64 (x.2 : Int)])) (hg : (w.alloc ob).grownBy w8 (Value.slice ea es.length ec).ownBlock) (hat : (Value.slice ea es.length ec).ownBlock = some g ∨ g = (w.alloc ob).heap.size) :
    LN w0 r a n cap bs at_ bad M B fin (es ++ [x]) (some ⟨g, 0, none⟩) c (w8.setCell ⟨M, 1, none⟩ (.slice (some ⟨g, 0, none⟩) (es.length + 1) c)) := by
  have lm := lt_of_cell h.c0
  have hz : (w.alloc ob).heap.size = w.heap.size + 1 := by simp
  have ob0 : ∀ k, some k = (Value.slice ea es.length ec).ownBlock → w0.heap.size ≤ k ∧ k ≠ M ∧ k ≠ B := fun k e => ⟨(h.o.lt k e.symm).1, h.ne k (own_at9 h.o e.symm)⟩
  have lb := lt_of_cell h.k0
  have bM := h.MB
  have gM : g ≠ M := by
    rcases hat with e | e
    · exact (ob0 g e.symm).2.1
    · omega
  have gB : g ≠ B := by
    rcases hat with e | e
    · exact (ob0 g e.symm).2.2
    · omega
  have cb : ∀ i, w8.cell? ⟨B, i, none⟩ = w.cell? ⟨B, i, none⟩ := fun i => (hg.cell_far ⟨B, i, none⟩ (by rw [hz]; exact Nat.lt_succ_of_lt lb) (fun e => (ob0 B e).2.2 rfl)).trans (cell_alloc_old lb)
  have fb : ∀ i, w8.frozen? ⟨B, i, none⟩ = false := fun i => (hg.frozen_far ⟨B, i, none⟩ (by rw [hz]; exact Nat.lt_succ_of_lt lb) (fun e => (ob0 B e).2.2 rfl)).trans (((below_one w ob).frozen (p := ⟨B, i, none⟩) lb).trans (h.kf i))
  have t1 : Turn (fun k => w0.heap.size ≤ k) w w8 := (Turn.alloc _ w ob).trans ⟨hg.os, hg.tape, hg.output, hg.size, fun k hk hn => hg.block k hk (fun e => hn (ob0 k e).1)⟩
  have cm : ∀ i, w8.cell? ⟨M, i, none⟩ = w.cell? ⟨M, i, none⟩ := fun i => (hg.cell_far ⟨M, i, none⟩ (by rw [hz]; exact Nat.lt_succ_of_lt lm) (fun e => (ob0 M e).2.1 rfl)).trans (cell_alloc_old lm)
  have fm : w8.frozen? ⟨M, 1, none⟩ = false := (hg.frozen_far ⟨M, 1, none⟩ (by rw [hz]; exact Nat.lt_succ_of_lt lm) (fun e => (ob0 M e).2.1 rfl)).trans (((below_one w ob).frozen (p := ⟨M, 1, none⟩) lm).trans h.f1)
  have t2 : Turn (fun k => w0.heap.size ≤ k) w (w8.setCell ⟨M, 1, none⟩ (.slice (some ⟨g, 0, none⟩) (es.length + 1) c)) := t1.trans (Turn.setCell h.M0)
  have el : (es ++ [x]).length = es.length + 1 := by rw [List.length_append]; rfl
  refine ⟨h.rd.turn t2 (by omega) (fun q o e => by have := ha q o e; omega), (cset_ne (by omega)).trans ((cm 0).trans h.c0), ?_, fset_any.trans fm, ?_, fun k e => by injection e with e; injection e with e; exact ⟨by omega, by omega⟩, h.M0, (cset_far bM).trans ((cb 0).trans h.k0), (cset_far bM).trans ((cb 1).trans h.k1), fun i => fset_any.trans (fb i), (Below.heap_setCell _ _ _ _ (show B ≠ M from fun e => bM e.symm)).trans ((hg.block B (by rw [hz]; exact Nat.lt_succ_of_lt lb) (fun e => (ob0 B e).2.2 rfl)).trans ((Below.heap_alloc w ob B lb).trans h.kh)), h.B0, h.MB, ⟨t2.os.trans h.t.os, t2.tape.trans h.t.tape, t2.output.trans h.t.output, Nat.le_trans h.t.size t2.size, fun k hk hn => (t2.block k (Nat.lt_of_lt_of_le hk h.t.size) (by omega)).trans (h.t.block k hk hn)⟩⟩
  · rw [el]; exact cset_at ((cm 1).trans h.c1)
  · rw [el, peV_app]
    exact gowns_block hown (fun q e => by
      injection e with e; injection e with e
      subst e
      exact Below.heap_setCell _ _ _ _ gM)
theorem rdNum9 (s : Nat) (si : Int) (hsi : si = (s : Int)) (h1 : 1 ≤ s) (h4 : s ≤ 4) (v at2 : Nat) (bad2 : Bool) {w0 w : World} {r : Nat} {a : Option Addr} {n cap : Nat} {bs : List Nat} {at_ : Nat} {bad : Bool} {M B : Nat} {fin : Bool} {es : List PE} {ea : Option Addr} {ec : Nat} (h : LN w0 r a n cap bs at_ bad M B fin es ea ec w) (hr : r < w0.heap.size) (hn : n ≤ 1048576) (hat : at_ ≤ n) (hv : numR bs n at_ s bad = v) (h2 : atR n at_ s bad = at2) (hb : (!okR n at_ s bad) = bad2) :
    Calls Try.prog 62 #[.pointer (some ⟨r, 0, none⟩), .int .i64 si] w fun e w' => e = .returned (.int .i64 (v : Int)) ∧ LN w0 r a n cap bs at2 bad2 M B fin es ea ec w' := by
  subst hsi hv h2 hb
  exact (rdNum_any r a n cap bs at_ bad s w h.rd hn hat h1 h4).mono fun e w' ⟨e1, m, t⟩ => ⟨e1, h.num hr m t⟩
end Go.Proofs.Ytlcmndbnknifhaa
/- pack: readNode, its walk -/
namespace Go.Proofs.Ytlcmndbnknifhaa
open Go.RowKit
set_option linter.unusedVariables false
set_option maxRecDepth 20000
theorem rdE_succ (bs : List Nat) (n k at_ : Nat) (bad : Bool) : rdE bs n (k + 1) at_ bad = (let a1 := atR n at_ 4 bad; let b1 := !okR n at_ 4 bad; let a2 := atR n a1 2 b1; let b2 := !okR n a1 2 b1; let x : PE := (numR bs n at_ 4 bad, numR bs n a1 2 b1); if b2 then ([x], a2, true) else (x :: (rdE bs n k a2 false).1, (rdE bs n k a2 false).2)) := rfl
theorem LN.kept {w0 : World} {r : Nat} {a : Option Addr} {n cap : Nat} {bs : List Nat} {at_ : Nat} {bad : Bool} {M B : Nat} {fin : Bool} {es : List PE} {ea : Option Addr} {ec : Nat} {w w8 : World} {ob : Obj} (h : LN w0 r a n cap bs at_ bad M B fin es ea ec w) (hg : (w.alloc ob).grownBy w8 (Value.slice ea es.length ec).ownBlock) : w8.cell? ⟨M, 1, none⟩ = some (.slice ea es.length ec) ∧ w8.frozen? ⟨M, 1, none⟩ = false := by
  have lm := lt_of_cell h.c0
  have hz : (w.alloc ob).heap.size = w.heap.size + 1 := by simp
  have ne : some M ≠ (Value.slice ea es.length ec).ownBlock := fun e => (h.ne M (own_at9 h.o e.symm)).1 rfl
  exact ⟨(hg.cell_far ⟨M, 1, none⟩ (by rw [hz]; exact Nat.lt_succ_of_lt lm) ne).trans ((cell_alloc_old lm).trans h.c1), (hg.frozen_far ⟨M, 1, none⟩ (by rw [hz]; exact Nat.lt_succ_of_lt lm) ne).trans (((below_one w ob).frozen (p := ⟨M, 1, none⟩) lm).trans h.f1)⟩
def RdP (r : Nat) (a : Option Addr) (n cap : Nat) (bs : List Nat) (x : PN × Nat × Bool) (w : World) (e : Ending) (w' : World) : Prop :=
  ∃ ea ec, e = .returned (.agg #[.bool x.1.fin, .slice ea x.1.es.length ec]) ∧ RdM r a n cap bs x.2.1 x.2.2 w' ∧ w'.ownsRow w.heap.size 131 2 (.slice ea x.1.es.length ec) x.1.es.length (peV x.1.es) ∧ Turn (fun k => k = r) w w'
theorem LN.fin {w0 : World} {r : Nat} {a : Option Addr} {n cap : Nat} {bs : List Nat} {at_ : Nat} {bad : Bool} {M B : Nat} {fin : Bool} {es : List PE} {ea : Option Addr} {ec : Nat} {w : World} (h : LN w0 r a n cap bs at_ bad M B fin es ea ec w) (hr : r < w0.heap.size) (ha : ∀ q o, a = some ⟨q, o, none⟩ → q < w0.heap.size) (u v : Value) :
    RdM r a n cap bs at_ bad ((w.setCell ⟨B, 0, none⟩ u).setCell ⟨B, 1, none⟩ v) ∧ ((w.setCell ⟨B, 0, none⟩ u).setCell ⟨B, 1, none⟩ v).ownsRow w0.heap.size 131 2 (.slice ea es.length ec) es.length (peV es) ∧ Turn (fun k => k = r) w0 ((w.setCell ⟨B, 0, none⟩ u).setCell ⟨B, 1, none⟩ v) ∧ ((w.setCell ⟨B, 0, none⟩ u).setCell ⟨B, 1, none⟩ v).heap[B]? = some (.cells #[u, v] 112 (0, 0)) := by
  have t2 : Turn (fun k => w0.heap.size ≤ k) w ((w.setCell ⟨B, 0, none⟩ u).setCell ⟨B, 1, none⟩ v) := (Turn.setCell h.B0).trans (Turn.setCell h.B0)
  refine ⟨h.rd.turn t2 (by omega) (fun q o e => by have := ha q o e; omega), gowns_block h.o (fun q e => ?_), ⟨t2.os.trans h.t.os, t2.tape.trans h.t.tape, t2.output.trans h.t.output, Nat.le_trans h.t.size t2.size, fun k hk hn => (t2.block k (Nat.lt_of_lt_of_le hk h.t.size) (by omega)).trans (h.t.block k hk hn)⟩, heap_setCell_same _ B 1 _ _ v (heap_setCell_same w B 0 _ _ u h.kh)⟩
  have hq := (h.ne q e).2
  exact (Below.heap_setCell _ _ _ _ hq).trans (Below.heap_setCell _ _ _ _ hq)
set_option maxHeartbeats 6400000 in
set_option maxRecDepth 100000 in
theorem readNode_any (r : Nat) (a : Option Addr) (n cap : Nat) (bs : List Nat) (at_ : Nat) (bad : Bool) (w : World) (m : RdM r a n cap bs at_ bad w) (hn : n ≤ 1048576) (hat : at_ ≤ n) (hr : r < w.heap.size) (ha : ∀ q o, a = some ⟨q, o, none⟩ → q < w.heap.size) (hbs : ∀ b ∈ bs, b < 256) (hlen : bs.length = n) :
    Calls Try.prog 63 #[.pointer (some ⟨r, 0, none⟩)] w (RdP r a n cap bs (rdN bs n at_ bad) w) := by
  obtain ⟨i0, hi, hz0, hz1, hz2⟩ := info_parts pedge_info
  have B0 := Lib.hid (below_one w (.cells #[.bool false, .slice none 0 0] 112))
  have M0 := Lib.hid (show RdM r a n cap bs at_ bad (w.alloc (.cells #[.bool false, .slice none 0 0] 112)) from m.turn (S := fun _ => False) (Turn.of_below B0.out) (fun x => x) (fun q o e x => x))
  obtain ⟨v1, hv1⟩ : ∃ v, numR bs n at_ 1 bad = v := ⟨_, rfl⟩
  obtain ⟨a1, ha1⟩ : ∃ v, atR n at_ 1 bad = v := ⟨_, rfl⟩
  obtain ⟨b1, hb1⟩ : ∃ v, (!okR n at_ 1 bad) = v := ⟨_, rfl⟩
  have C1 := Lib.hid (rdNum_any r a n cap bs at_ bad 1 _ M0.out hn hat (by omega) (by omega))
  rw [hv1, ha1, hb1, show ((1 : Nat) : Int) = 1 from rfl] at C1
  have la1 : a1 ≤ n := ha1 ▸ atR_le hat
  obtain ⟨fin, hfin⟩ : ∃ f, ((v1 : Int) == 1) = f := ⟨_, rfl⟩
  have HFIN := Lib.hid (show decide (v1 = 1) = fin from by rw [← hfin]; by_cases h : v1 = 1 <;> simp [h]; omega)
  obtain ⟨v2, hv2⟩ : ∃ v, numR bs n a1 2 b1 = v := ⟨_, rfl⟩
  obtain ⟨a2, ha2⟩ : ∃ v, atR n a1 2 b1 = v := ⟨_, rfl⟩
  obtain ⟨b2, hb2⟩ : ∃ v, (!okR n a1 2 b1) = v := ⟨_, rfl⟩
  have la2 : a2 ≤ n := ha2 ▸ atR_le la1
  have v2b : v2 < 65536 := by rw [← hv2]; exact numR_lt bs n a1 2 b1 hbs hlen
  obtain ⟨R, hR⟩ : ∃ x, rdE bs n v2 a2 b2 = x := ⟨_, rfl⟩
  have HRD := Lib.hid (show rdN bs n at_ bad = (⟨fin, R.1⟩, R.2) from by
    unfold rdN
    simp only [hv1, ha1, hb1, hv2, ha2, hb2, hR, HFIN.out])
  rw [HRD.out]
  have RR := Lib.hid hR
  have HR := Lib.hid hr; have HA := Lib.hid ha
  have E2 := Lib.hid (And.intro hv2 (And.intro ha2 hb2))
  have CB := Lib.hid (show (w.alloc (.cells #[.bool false, .slice none 0 0] 112)).cell? ⟨w.heap.size, 0, none⟩ = some (.bool false) ∧ (w.alloc (.cells #[.bool false, .slice none 0 0] 112)).cell? ⟨w.heap.size, 1, none⟩ = some (.slice none 0 0) ∧ ∀ i, (w.alloc (.cells #[.bool false, .slice none 0 0] 112)).frozen? ⟨w.heap.size, i, none⟩ = false from ⟨by rw [cell_alloc rfl]; rfl, by rw [cell_alloc rfl]; rfl, fun i => frozen_alloc rfl⟩)
  clear m hr ha hv1 ha1 hb1 hv2 ha2 hb2 hR hbs hlen HRD
  go_enter Try.func63, Try.ntmps63
  go_wp2_with fail
  with_reducible refine C1.out.mono ?_
  rintro e w2 ⟨rfl, m2, t2⟩
  have L3 := Lib.hid (show LN w r a n cap bs a1 b1 w2.heap.size w.heap.size fin [] none 0 (w2.alloc (.cells #[.bool fin, .slice none 0 0] 112)) from by
    have hz := t2.size
    have hz0 : (w.alloc (.cells #[.bool false, .slice none 0 0] 112)).heap.size = w.heap.size + 1 := by simp
    have hB : ¬ w.heap.size = r := by have := HR.out; omega
    have lB : w.heap.size < (w.alloc (.cells #[.bool false, .slice none 0 0] 112)).heap.size := by omega
    have b3 := below_one w2 (.cells #[.bool fin, .slice none 0 0] 112)
    have lB2 : w.heap.size < w2.heap.size := by omega
    exact ⟨m2.turn (S := fun _ => False) (Turn.of_below b3) (fun x => x) (fun q o e x => x), by rw [cell_alloc rfl]; rfl, by rw [cell_alloc rfl]; rfl, frozen_alloc rfl, World.ownsRow_nil _ _ _ _, fun k e => (by cases e), by omega,
      (b3.cell (p := ⟨w.heap.size, 0, none⟩) lB2).trans ((t2.cell lB hB).trans CB.out.1), (b3.cell (p := ⟨w.heap.size, 1, none⟩) lB2).trans ((t2.cell lB hB).trans CB.out.2.1), fun i => (b3.frozen (p := ⟨w.heap.size, i, none⟩) lB2).trans ((t2.frozen lB hB).trans (CB.out.2.2 i)), (b3.block w.heap.size lB2).trans ((t2.block w.heap.size lB hB).trans (heap_alloc_new w _)), Nat.le_refl _, by omega, ((Turn.of_below B0.out).trans t2).trans (Turn.of_below b3)⟩)
  have C2 := Lib.hid (rdNum9 2 2 rfl (by omega) (by omega) v2 a2 b2 L3.out HR.out hn la1 E2.out.1 E2.out.2.1 E2.out.2.2)
  clear m2 t2 C1 M0 B0 CB
  go_wp2_with fail
  with_reducible refine C2.out.mono ?_
  rintro e w4 ⟨rfl, hL4⟩
  have L4 := Lib.hid hL4
  generalize w2.heap.size = M at *
  clear hL4 L3 C2
  go_wp2_with fail
  go_loopw [12] (fun iv wr => ∃ (i : Nat) (es : List PE) (ea : Option Addr) (ec at3 : Nat) (bad3 : Bool), i ≤ v2 ∧ iv = .int .i64 i ∧ at3 ≤ n ∧ es.length ≤ i ∧ Hid (es ++ (rdE bs n (v2 - i) at3 bad3).1 = R.1 ∧ (rdE bs n (v2 - i) at3 bad3).2 = R.2) ∧ Hid (LN w r a n cap bs at3 bad3 M w.heap.size fin es ea ec wr)) (fun iv _ => v2 - (intOf iv).toNat)
  case atStart => exact ⟨0, [], none, 0, a2, b2, by omega, rfl, la2, by simp, Lib.hid (by rw [Nat.sub_zero, RR.out]; exact ⟨rfl, rfl⟩), L4⟩
  case round =>
    clear L4 RR
    obtain ⟨i, es, ea, ec, at3, bad3, hi', rfl, l3, hel, hE, hL⟩ := hrel
    by_cases hlt : i < v2
    · obtain ⟨l, hl⟩ : ∃ v, numR bs n at3 4 bad3 = v := ⟨_, rfl⟩
      obtain ⟨a4, ha4⟩ : ∃ v, atR n at3 4 bad3 = v := ⟨_, rfl⟩
      obtain ⟨b4, hb4⟩ : ∃ v, (!okR n at3 4 bad3) = v := ⟨_, rfl⟩
      obtain ⟨t, ht⟩ : ∃ v, numR bs n a4 2 b4 = v := ⟨_, rfl⟩
      obtain ⟨a5, ha5⟩ : ∃ v, atR n a4 2 b4 = v := ⟨_, rfl⟩
      obtain ⟨b5, hb5⟩ : ∃ v, (!okR n a4 2 b4) = v := ⟨_, rfl⟩
      have l4 : a4 ≤ n := ha4 ▸ atR_le l3
      have l5 : a5 ≤ n := ha5 ▸ atR_le l4
      have EX := Lib.hid (show rdE bs n (v2 - i) at3 bad3 = if b5 then ([(l, t)], a5, true) else ((l, t) :: (rdE bs n (v2 - (i + 1)) a5 false).1, (rdE bs n (v2 - (i + 1)) a5 false).2) from by
        rw [show v2 - i = (v2 - (i + 1)) + 1 by omega, rdE_succ]
        simp only [hl, ha4, hb4, ht, ha5, hb5])
      have C4 := Lib.hid (fun (w' : World) (h : LN w r a n cap bs at3 bad3 M w.heap.size fin es ea ec w') => rdNum9 4 4 rfl (by omega) (by omega) l a4 b4 h HR.out hn l3 hl ha4 hb4)
      have C5 := Lib.hid (fun (w' : World) (h : LN w r a n cap bs a4 b4 M w.heap.size fin es ea ec w') => rdNum9 2 2 rfl (by omega) (by omega) t a5 b5 h HR.out hn l4 ht ha5 hb5)
      have L4 := Lib.hid (hL.out.below (Below.refl _ _).drew)
      have y4 := L4.out.c1
      clear hl ha4 hb4 ht ha5 hb5
      go_upto_region 5 with fail
      go_region_law
        (first
          | (refine step_append_lies _ (by rfl) _ _ _ (by rfl) w.heap.size 131 i0 _ 2 16 Try.underlying110 hi hz0 hz1 hz2 rfl (by omega) (.slice ea es.length ec) es.length (peV es) (by first | rfl | (simp [Act.eval]; done) | (simp [Act.eval, Act.put]; done)) (hL6.o.alloc _) ⟨w6.heap.size, 0, none⟩ 1 1 [.int .i64 (l : Int), .int .i64 (t : Int)] (by first | rfl | (simp [Act.eval]; done) | (simp [Act.eval, Act.put]; done)) (by rfl) (World.news_of_block (cs := #[.int .i64 (l : Int), .int .i64 (t : Int)]) (t := 131) (fr := (0, 0)) (heap_alloc_new w6 _)) (by simp [Value.oneCell']) (by omega) (by unfold maxLen; omega) (by omega) (by have := hL6.t.size; simp; omega) (w6.heap.size + 1) (by simp) ?_; intro g8 c8 w8 hown8 hgrow8 hat8 hlt8; obtain ⟨z0, z1⟩ := hL6.kept hgrow8)
          | (go_simp; go_at_call 62; (with_reducible refine (C4.out _ L4.out).mono ?_); rintro e w5 ⟨rfl, hL5⟩; have y5 := hL5.c1)
          | (go_simp; go_at_call 62; (with_reducible refine (C5.out _ hL5).mono ?_); rintro e w6 ⟨rfl, hL6⟩; have y6 := hL6.c1; have y7 := fun ob => (cell_alloc_old (w := w6) (o := ob) (b := M) (p := 1) (lt_of_cell hL6.c0)).trans hL6.c1)
          | fail)
      all_goals
        have LA := Lib.hid (hL6.app (x := (l, t)) HR.out HA.out hown8 hgrow8 (hat8.imp id (fun e => by simp; exact e)))
        clear hown8 hgrow8 hat8 hlt8 z0 z1 hL5 hL6 y4 y5 y6 y7 C4 C5 L4
        have CB5 := Lib.hid (rdBad_any r a n cap bs a5 b5 _ LA.out.rd)
        go_wp2_with fail
        with_reducible refine CB5.out.mono ?_
        rintro e w9 ⟨rfl, rfl⟩
        cases b5 with
        | true =>
          have ED := Lib.hid (show es ++ [(l, t)] = R.1 ∧ (a5, true) = R.2 from by
            have h1 := hE.out
            rw [EX.out] at h1
            simpa using h1)
          have F := Lib.hid (LA.out.fin HR.out HA.out (.bool fin) (.slice (some ⟨g8, 0, none⟩) (es.length + 1) c8))
          have EL : (es ++ [((l, t) : PE)]).length = es.length + 1 := by rw [List.length_append]; rfl
          have c0 := LA.out.c0
          have c1 := LA.out.c1
          rw [EL] at c1
          have k0 := LA.out.k0
          have k1 := LA.out.k1
          have f0 := LA.out.kf 0
          have f1 := LA.out.kf 1
          have ELH := Lib.hid EL
          clear EL
          go_wp2_with fail
          (try simp only [Exit.inBlock, Exit.then])
          refine bodyPost_ret (results_cell_row rfl _ _ w.heap.size 112 _ (0, 0) _ rfl F.out.2.2.2 Try.underlying112 rfl (by kernel_rfl)) rfl ?_
          obtain ⟨e1, e2⟩ := ED.out
          rw [← e1, ← e2]
          exact ⟨some ⟨g8, 0, none⟩, c8, by rw [ELH.out], F.out.1, F.out.2.1, F.out.2.2.1⟩
        | false =>
          have EN := Lib.hid (show (es ++ [(l, t)]) ++ (rdE bs n (v2 - (i + 1)) a5 false).1 = R.1 ∧ (rdE bs n (v2 - (i + 1)) a5 false).2 = R.2 from by
            have h1 := hE.out
            rw [EX.out] at h1
            simpa using h1)
          go_wp2_with fail
          go_roundw
          case rel => exact ⟨i + 1, es ++ [(l, t)], some ⟨g8, 0, none⟩, c8, a5, false, by omega, by go_num, l5, by simp; omega, EN, LA⟩
          case measure => simp [intOf] <;> omega
    · obtain rfl : i = v2 := by omega
      have ED := Lib.hid (show es = R.1 ∧ (at3, bad3) = R.2 from by
        have h1 := hE.out
        rw [Nat.sub_self] at h1
        simpa [rdE] using h1)
      have F := Lib.hid (hL.out.fin HR.out HA.out (.bool fin) (.slice ea es.length ec))
      have c0 := hL.out.c0
      have c1 := hL.out.c1
      have k0 := hL.out.k0
      have k1 := hL.out.k1
      have f0 := hL.out.kf 0
      have f1 := hL.out.kf 1
      go_wp2_with fail
      (try simp only [Exit.inBlock, Exit.then])
      refine bodyPost_ret (results_cell_row rfl _ _ w.heap.size 112 _ (0, 0) _ rfl F.out.2.2.2 Try.underlying112 rfl (by kernel_rfl)) rfl ?_
      obtain ⟨e1, e2⟩ := ED.out
      rw [← e1, ← e2]
      exact ⟨ea, ec, rfl, F.out.1, F.out.2.1, F.out.2.2.1⟩
end Go.Proofs.Ytlcmndbnknifhaa
/- A string's bytes; a string appended to a slice of bytes. -/
namespace Go.Proofs.Ytlcmndbnknifhaa
open Go.ChangeShapes Go.WideShapes Go.ChangeAt Go.RowKit
set_option linter.unusedVariables false
set_option maxRecDepth 20000
def strB (s : ByteArray) : List Nat := s.data.toList.map UInt8.toNat
theorem strB_length (s : ByteArray) : (strB s).length = s.size := by rw [strB, List.length_map, Array.length_toList]; rfl
theorem strB_lt (s : ByteArray) : ∀ b ∈ strB s, b < 256 := by
  intro b hb
  obtain ⟨x, _, rfl⟩ := List.mem_map.1 hb
  exact x.toNat_lt
theorem strCells_eq (s : ByteArray) : Lib.strCells s = bytesV (strB s) := by
  simp [Lib.strCells, bytesV, strB, List.map_map]
theorem below_bytesWorld (w : World) (e : TypeId) (s : ByteArray) : Below w.heap.size w (Lib.bytesWorld w e s) :=
  ⟨rfl, rfl, rfl, by rw [Lib.bytesWorld_size]; omega, fun k hk => Lib.bytesWorld_at_old w e s k hk⟩
theorem strB_getD (s : ByteArray) (j : Nat) : (strB s).getD j 0 = (s.data.toList.getD j 0).toNat := by
  simp only [strB, List.getD_eq_getElem?_getD, List.getElem?_map]
  cases s.data.toList[j]? <;> rfl
theorem holdsB_bytesWorld (w : World) (e : TypeId) (s : ByteArray) : HoldsB (Lib.bytesWorld w e s) (some ⟨w.heap.size, 0, none⟩) s.size (strB s) :=
  ⟨⟨by rw [List.length_map, strB_length], fun _ => ⟨_, _, rfl, fun i hi => by rw [Nat.zero_add, Lib.bytesWorld_cell w e s i hi, getD_map_cast, strB_getD]⟩⟩, strB_lt s⟩
theorem wpList_append_str {P : Program} {w : World} {ops : Array Oper} {rest : List Oper} {o : Oper} {a : Act} {Q : Exit → Act → World → Prop} (hgd : o.guard = none) (s x : Operand) (t u : TypeId)
    (ho : o.op = .call { callee := .builtin .append, args := #[s, x], argTypes := #[t, u] })
    (base : Nat) (e : TypeId) (i : TypeInfo) (ht : P.underlying t = some (.slice e)) (hu : P.underlying u = some .string) (hi : P.info? e = some i) (hz : i.zero = some (.int .u8 0)) (hsize : i.size = 1) (hby : i.bytes = 1)
    (v : Value) (n : Nat) (bs : List Nat) (hs : a.eval s = v) (hown : w.ownsRow base e 1 v n (bytesV bs))
    (str : ByteArray) (hx : a.eval x = .string str)
    (h63 : n + str.size ≤ maxLen) (hbytes : n + str.size ≤ 140737488355328) (hbase : base ≤ w.heap.size)
    (h : ∀ a' c' w', w'.ownsRow base e 1 (.slice a' (n + str.size) c') (n + str.size) (bytesV (bs ++ strB str)) → Below base w w' → wpList P ops Q rest (a.put o.dst (.slice a' (n + str.size) c')) w') : wpList P ops Q (o :: rest) a w := by
  refine Lib.wpList_append_own_string w hgd s x t u ho base e i ht hu hi hz hsize hby v n (bytesV bs) hs hown str hx h63 hbytes hbase fun v' w' h2 h3 _ => ?_
  have hb' : Below base w w' := (Below.refl base w).grown h3 hbase fun k hk => (hown.lt k hk).1
  rw [strCells_eq, bytesV_append] at h2
  rcases Joins.ownsRow_forms h2 with ⟨rfl, h0⟩ | ⟨g, cap, rfl⟩
  · have := h none 0 w' (by rw [h0] at h2 ⊢; exact h2) hb'
    rw [h0] at this
    exact this
  · exact h _ _ w' h2 hb'
end Go.Proofs.Ytlcmndbnknifhaa
/- contracts of code: a text read -/
namespace Go.Proofs.Ytlcmndbnknifhaa
open Go.RowKit
set_option linter.unusedVariables false
set_option maxRecDepth 20000
/-- the text of bytes -/
def strN (bs : List Nat) : ByteArray := strOfNums (bs.map fun b : Nat => (b : Int))
theorem strN_nil : strN [] = ⟨#[]⟩ := rfl
theorem run_conv_bytes {P : Program} (w : World) (src e dst : TypeId) (hs : P.underlying src = some (.slice e)) (he : P.underlying e = some (.int .u8)) (hd : P.underlying dst = some .string) (a : Option Addr) (n cap : Nat) (bs : List Nat) (h : HoldsB w a n bs) :
    (convert src dst (.slice a n cap)).run P w = .ok (.string (strN bs)) w := by
  have hl := h.len
  rcases Nat.eq_zero_or_pos n with h0 | h0
  · subst h0
    obtain rfl := List.eq_nil_of_length_eq_zero hl
    rw [run_convert_bytes_string w src dst e a 0 cap hs he hd]
    cases a with
    | none => simp [Conv.bytesToString]; rfl
    | some ad => simp [Conv.bytesToString]; rfl
  · obtain ⟨b, o, rfl, hc⟩ := h.at h0
    exact run_convert_bytes_arg (P := P) w src e hs he b o n cap (bs.map fun b : Nat => (b : Int)) (by simpa using hl) (fun i hi => by rw [hc i (by simpa [hl] using hi), getD_map_cast]) dst hd
/-- the bytes of the text at k -/
def textN (bs : List Nat) (k : Nat) : List Nat := (bs.take (k + 2 + numN bs k 2)).drop (k + 2)

theorem ret_mid {u v : Value} {x y : Int} (h : x = y) : Ending.returned (.tuple #[u, .int .i64 x, v]) = .returned (.tuple #[u, .int .i64 y, v]) := by rw [h]

end Go.Proofs.Ytlcmndbnknifhaa
/- pack: bytes alike, bytes that begin with others -/
namespace Go.Proofs.Ytlcmndbnknifhaa
open Go.RowKit
set_option linter.unusedVariables false
set_option maxRecDepth 20000
theorem strN_inj {x y : List Nat} (hx : ∀ b ∈ x, b < 256) (hy : ∀ b ∈ y, b < 256) : strN x = strN y ↔ x = y := by
  refine ⟨fun h => ?_, fun h => by rw [h]⟩
  have key : ∀ l : List Nat, (∀ b ∈ l, b < 256) → ((strN l).data.toList.map UInt8.toNat) = l := fun l hl => by
    unfold strN
    rw [strOfNums_data, List.map_map, List.map_map]
    refine (List.map_congr_left fun b hb => ?_).trans (List.map_id l)
    have := hl b hb
    simp
    omega
  rw [← key x hx, ← key y hy, h]
theorem bEqual_any (a1 a2 : Option Addr) (n1 c1 n2 c2 : Nat) (x y : List Nat) (w : World) (h1 : HoldsB w a1 n1 x) (h2 : HoldsB w a2 n2 y) :
    Calls Try.prog 39 #[.slice a1 n1 c1, .slice a2 n2 c2] w fun e w' => e = .returned (.bool (decide (x = y))) ∧ w = w' := by
  have r1 := run_conv_bytes w 25 5 9 Try.underlying25 Try.underlying5 Try.underlying9 a1 n1 c1 x h1
  have r2 := run_conv_bytes w 25 5 9 Try.underlying25 Try.underlying5 Try.underlying9 a2 n2 c2 y h2
  have E := Lib.hid (strN_inj h1.2 h2.2)
  clear h1 h2
  by_cases he : x = y
  · subst he
    rw [decide_eq_true rfl]
    have e1 : ((strN x).toList == (strN x).toList) = true := by simp
    go_enter Try.func39, Try.ntmps39
    go_wp2_with fail
    go_ret
    exact ⟨rfl, rfl⟩
  · rw [decide_eq_false he]
    have e1 : ((strN x).toList == (strN y).toList) = false := by
      rw [beq_eq_false_iff_ne]; exact fun h => he (E.out.1 (toList_inj h))
    clear he
    go_enter Try.func39, Try.ntmps39
    go_wp2_with fail
    go_ret
    exact ⟨rfl, rfl⟩
theorem bPrefix_any (a1 a2 : Option Addr) (n1 c1 n2 c2 : Nat) (x y : List Nat) (w : World) (h1 : HoldsB w a1 n1 x) (h2 : HoldsB w a2 n2 y) (hc : n1 ≤ c1) (h0 : 0 < n2) (hn : n1 ≤ 9223372036854775807) (hn2 : n2 ≤ 9223372036854775807) :
    Calls Try.prog 60 #[.slice a1 n1 c1, .slice a2 n2 c2] w fun e w' => e = .returned (.bool (decide (x.take n2 = y))) ∧ w = w' := by
  have l1 := h1.len
  have l2 := h2.len
  by_cases hle : n2 ≤ n1
  · have d1 : decide ((n1 : Int) ≥ (n2 : Int)) = true := decide_eq_true (by omega)
    have d2 : decide ((n2 : Int) ≤ (n1 : Int)) = true := decide_eq_true (by omega)
    obtain ⟨q, o, rfl, -⟩ := h1.at (by omega)
    have CE := Lib.hid (bEqual_any (some ⟨q, o, none⟩) a2 n2 c1 n2 c2 (x.take n2) y w (h1.front n2 hle) h2)
    obtain ⟨z, hz⟩ : ∃ z, decide (x.take n2 = y) = z := ⟨_, rfl⟩
    rw [hz] at CE ⊢
    have n3 : (n2 : Int) ≤ (c1 : Int) := by omega
    have n4 : n2 ≤ c1 := by omega
    have n5 : (0 : Int) ≤ (n2 : Int) := by omega
    clear h1 h2 hz l1 l2
    go_enter Try.func60, Try.ntmps60
    go_wp2_with fail
    with_reducible refine CE.out.mono ?_
    rintro e w' ⟨rfl, rfl⟩
    go_wp2_with fail
    go_ret
    exact ⟨rfl, rfl⟩
  · have d1 : decide ((n1 : Int) ≥ (n2 : Int)) = false := decide_eq_false (by omega)
    have d2 : decide ((n2 : Int) ≤ (n1 : Int)) = false := decide_eq_false (by omega)
    have hz : decide (x.take n2 = y) = false := decide_eq_false (fun e => by
      have := congrArg List.length e
      rw [List.length_take] at this; omega)
    rw [hz]
    clear h1 h2 hz l1 l2
    go_enter Try.func60, Try.ntmps60
    go_wp2_with fail
    go_ret
    exact ⟨rfl, rfl⟩
end Go.Proofs.Ytlcmndbnknifhaa
/- pack: nodes as they are read, in memory -/
namespace Go.Proofs.Ytlcmndbnknifhaa
open Go.RowKit
set_option linter.unusedVariables false
set_option maxRecDepth 20000
theorem pnode_info : (Try.prog.info? 112).map (fun i => (i.zero, i.size, i.bytes)) = some (some (.agg #[.bool false, .slice none 0 0]), 2, 32) := by kernel_rfl
/-- so many nodes, read on from here; none: something was missing -/
def rdL (bs : List Nat) (n : Nat) : Nat → Nat → Option (List PN × Nat)
  | 0, at_ => some ([], at_)
  | k + 1, at_ => if (rdN bs n at_ false).2.2 then none else (rdL bs n k (rdN bs n at_ false).2.1).map (fun r => ((rdN bs n at_ false).1 :: r.1, r.2))
/-- the nodes of a body: none: it is no such body -/
def readP (body : List Nat) : Option (List PN) :=
  if body.take 4 = [73, 78, 75, 49] then
    let d := body.drop 4
    if okR d.length 0 2 false then
      match rdL d d.length (numR d d.length 0 2 false) 2 with
      | some (L, k) => if k = d.length then some L else none
      | none => none
    else none
  else none
/-- a node with where its edges lie -/
structure PM where
  fin : Bool
  es : List PE
  ea : Option Addr
  ec : Nat
def pm0 : PM := ⟨false, [], none, 0⟩
def pmP (x : PM) : PN := ⟨x.fin, x.es⟩
def pmV : List PM → List Value
  | [] => []
  | x :: l => .bool x.fin :: .slice x.ea x.es.length x.ec :: pmV l
theorem pmV_len : ∀ l : List PM, (pmV l).length = l.length * 2
  | [] => rfl
  | x :: l => by simp [pmV, pmV_len l]; omega
theorem pmV_app : ∀ k l : List PM, pmV (k ++ l) = pmV k ++ pmV l
  | [], l => rfl
  | x :: k, l => by simp [pmV, pmV_app k l]
theorem pmV_one : ∀ (l : List PM), ∀ u ∈ pmV l, u.oneCell' = true
  | [], u, h => by simp [pmV] at h
  | x :: l, u, h => by
    simp only [pmV, List.mem_cons] at h
    rcases h with h | h | h
    · subst h; rfl
    · subst h; rfl
    · exact pmV_one l u h
theorem pmV_at : ∀ (l : List PM) (i : Nat), i < l.length → (pmV l)[i * 2]? = some (.bool (l.getD i pm0).fin) ∧ (pmV l)[i * 2 + 1]? = some (.slice (l.getD i pm0).ea (l.getD i pm0).es.length (l.getD i pm0).ec)
  | [], i, h => by simp at h
  | x :: l, 0, _ => by simp [pmV]
  | x :: l, i + 1, h => by
    have ih := pmV_at l i (by simpa using h)
    have e1 : (i + 1) * 2 = i * 2 + 1 + 1 := by omega
    rw [e1]
    simpa [pmV] using ih
/-- nodes in memory, each with its own edges, all from block B on -/
structure PR9 (B : Nat) (NL : List PM) (na : Option Addr) (nc : Nat) (w : World) : Prop where
  o : w.ownsRow B 112 2 (.slice na NL.length nc) NL.length (pmV NL)
  e : ∀ x ∈ NL, w.ownsRow B 131 2 (.slice x.ea x.es.length x.ec) x.es.length (peV x.es)
  ne : ∀ x ∈ NL, ∀ k, x.ea = some ⟨k, 0, none⟩ → na ≠ some ⟨k, 0, none⟩
theorem turn_grown9 {w w' : World} {r : Option Nat} (h : w.grownBy w' r) : Turn (fun k => some k = r) w w' := ⟨h.os, h.tape, h.output, h.size, fun k hk hn => h.block k hk hn⟩
theorem own_turn9 {w w' : World} {B : Nat} {e : TypeId} {size n c : Nat} {a : Option Addr} {xs : List Value} {T : Nat → Prop} (h : w.ownsRow B e size (.slice a n c) n xs) (t : Turn T w w') (hT : ∀ k, a = some ⟨k, 0, none⟩ → ¬ T k) : w'.ownsRow B e size (.slice a n c) n xs :=
  gowns_block h fun g e => t.block g (h.lt g (by rw [e]; rfl)).2 (hT g e)
theorem PR9.turn {B : Nat} {NL : List PM} {na : Option Addr} {nc : Nat} {w w' : World} {T : Nat → Prop} (h : PR9 B NL na nc w) (t : Turn T w w') (h1 : ∀ k, na = some ⟨k, 0, none⟩ → ¬ T k) (h2 : ∀ x ∈ NL, ∀ k, x.ea = some ⟨k, 0, none⟩ → ¬ T k) : PR9 B NL na nc w' :=
  ⟨own_turn9 h.o t h1, fun x hx => own_turn9 (h.e x hx) t (h2 x hx), h.ne⟩
/-- a node more -/
theorem PR9.grow {B : Nat} {NL : List PM} {na : Option Addr} {nc g c : Nat} {x : PM} {w w8 : World} {ob : Obj} (h : PR9 B NL na nc w) (hx : w.ownsRow B 131 2 (.slice x.ea x.es.length x.ec) x.es.length (peV x.es)) (hne : ∀ k, x.ea = some ⟨k, 0, none⟩ → na ≠ some ⟨k, 0, none⟩)
    (hown : w8.ownsRow B 112 2 (.slice (some ⟨g, 0, none⟩) (NL.length + 1) c) (NL.length + 1) (pmV NL ++ [.bool x.fin, .slice x.ea x.es.length x.ec])) (hg : (w.alloc ob).grownBy w8 (Value.slice na NL.length nc).ownBlock) (hat : (Value.slice na NL.length nc).ownBlock = some g ∨ g = (w.alloc ob).heap.size) : PR9 B (NL ++ [x]) (some ⟨g, 0, none⟩) c w8 := by
  have hz : (w.alloc ob).heap.size = w.heap.size + 1 := by simp
  have t : Turn (fun k => some k = (Value.slice na NL.length nc).ownBlock) w w8 := (Turn.alloc _ w ob).trans (turn_grown9 hg)
  have el : (NL ++ [x]).length = NL.length + 1 := by rw [List.length_append]; rfl
  have all : ∀ y ∈ NL ++ [x], w.ownsRow B 131 2 (.slice y.ea y.es.length y.ec) y.es.length (peV y.es) ∧ ∀ k, y.ea = some ⟨k, 0, none⟩ → na ≠ some ⟨k, 0, none⟩ := fun y hy => by
    rcases List.mem_append.1 hy with hy | hy
    · exact ⟨h.e y hy, h.ne y hy⟩
    · obtain rfl : y = x := by simpa using hy
      exact ⟨hx, hne⟩
  refine ⟨by rw [el, pmV_app]; exact hown, fun y hy => own_turn9 (all y hy).1 t (fun k e e2 => (all y hy).2 k e (own_at9 h.o e2.symm)), fun y hy k e e2 => ?_⟩
  injection e2 with e2; injection e2 with e2; subst e2
  rcases hat with e3 | e3
  · exact (all y hy).2 g e (own_at9 h.o e3)
  · have := ((all y hy).1.lt g (by rw [e]; rfl)).2; omega
end Go.Proofs.Ytlcmndbnknifhaa
/- pack: read -/
namespace Go.Proofs.Ytlcmndbnknifhaa
open Go.RowKit
set_option linter.unusedVariables false
set_option maxRecDepth 20000
theorem magic4 (w : World) : Calls Try.prog 31 #[] w fun e w' => ∃ a c, e = .returned (.slice a 4 c) ∧ HoldsB w' a 4 [73, 78, 75, 49] ∧ Below w.heap.size w w' := by
  refine (magic_any w).mono ?_
  rintro e w' ⟨a, c, rfl, h1, h2, -⟩
  exact ⟨a, c, rfl, holdsB_of_values (owns_holds h1) (by decide), h2⟩
/-- the loop's state -/
structure RL9 (w0 : World) (r : Nat) (a : Option Addr) (n cap : Nat) (bs : List Nat) (at_ : Nat) (bad : Bool) (NL : List PM) (na : Option Addr) (nc : Nat) (w : World) : Prop where
  rd : RdM r a n cap bs at_ bad w
  q : PR9 w0.heap.size NL na nc w
  nr : ∀ k, na = some ⟨k, 0, none⟩ → k ≠ r
  er : ∀ x ∈ NL, ∀ k, x.ea = some ⟨k, 0, none⟩ → k ≠ r
  r0 : w0.heap.size ≤ r
  b : Below w0.heap.size w0 w
/-- a node was read -/
theorem RL9.step {w0 : World} {r : Nat} {a : Option Addr} {n cap : Nat} {bs : List Nat} {at_ at2 : Nat} {bad bad2 : Bool} {NL : List PM} {na : Option Addr} {nc : Nat} {w w' w8 : World} {x : PM} {g c : Nat} {ob : Obj} (h : RL9 w0 r a n cap bs at_ bad NL na nc w) (ha : ∀ q o, a = some ⟨q, o, none⟩ → q < w0.heap.size) (m : RdM r a n cap bs at2 bad2 w') (t : Turn (fun k => k = r) w w') (hx : w'.ownsRow w.heap.size 131 2 (.slice x.ea x.es.length x.ec) x.es.length (peV x.es))
    (hown : w8.ownsRow w0.heap.size 112 2 (.slice (some ⟨g, 0, none⟩) (NL.length + 1) c) (NL.length + 1) (pmV NL ++ [.bool x.fin, .slice x.ea x.es.length x.ec])) (hg : (w'.alloc ob).grownBy w8 (Value.slice na NL.length nc).ownBlock) (hat : (Value.slice na NL.length nc).ownBlock = some g ∨ g = (w'.alloc ob).heap.size) :
    RL9 w0 r a n cap bs at2 bad2 (NL ++ [x]) (some ⟨g, 0, none⟩) c w8 := by
  have hz : (w'.alloc ob).heap.size = w'.heap.size + 1 := by simp
  have q' : PR9 w0.heap.size NL na nc w' := h.q.turn t h.nr h.er
  have lr : r < w'.heap.size := lt_of_cell m.c0
  have lrw : r < w.heap.size := lt_of_cell h.rd.c0
  have hxb : ∀ k, x.ea = some ⟨k, 0, none⟩ → w.heap.size ≤ k := fun k e => (hx.lt k (by rw [e]; rfl)).1
  have nb : ∀ k, some k = (Value.slice na NL.length nc).ownBlock → na = some ⟨k, 0, none⟩ := fun k e => own_at9 q'.o e.symm
  have t8 : Turn (fun k => some k = (Value.slice na NL.length nc).ownBlock) w' w8 := (Turn.alloc _ w' ob).trans (turn_grown9 hg)
  refine ⟨m.turn t8 (fun e => h.nr r (nb r e) rfl) (fun q o e e2 => ?_), q'.grow (base_less9 hx h.b.size) (fun k e e2 => ?_) hown hg hat, fun k e => ?_, fun y hy k e => ?_, h.r0, ?_⟩
  · have h1 := ha q o e
    have h2 := (q'.o.lt q e2.symm).1
    omega
  · have h1 := hxb k e
    have h2 := (h.q.o.lt k (by rw [e2]; rfl)).2
    omega
  · injection e with e; injection e with e; subst e
    rcases hat with e3 | e3
    · exact h.nr g (own_at9 q'.o e3)
    · omega
  · rcases List.mem_append.1 hy with hy | hy
    · exact h.er y hy k e
    · obtain rfl : y = x := by simpa using hy
      have := hxb k e
      omega
  · have hB := h.b.size
    have t9 : Turn (fun k => w0.heap.size ≤ k) w w8 := ⟨t8.os.trans t.os, t8.tape.trans t.tape, t8.output.trans t.output, Nat.le_trans t.size t8.size, fun k hk hn => (t8.block k (Nat.lt_of_lt_of_le hk t.size) (fun e => hn (q'.o.lt k e.symm).1)).trans (t.block k hk (fun e => hn (by rw [e]; exact h.r0)))⟩
    exact h.b.trans (t9.below (fun k hk => hk) hB)
end Go.Proofs.Ytlcmndbnknifhaa
/- contract of the reference's sum -/
namespace Go.Proofs.Ytlcmndbnknifhaa
open Go.RowKit
set_option linter.unusedVariables false
set_option maxRecDepth 20000

theorem bit_of (x j : Nat) : ((x : Int) / 2 ^ j).tmod 2 = ((x / 2 ^ j % 2 : Nat) : Int) := by
  rw [Int.tmod_eq_emod_of_nonneg (Int.ediv_nonneg (by omega) (Int.pow_nonneg (by decide)))]
  norm_cast
theorem rst_yes (y x j : Nat) (h : y % 2 ≠ x / 2 ^ j % 2) : (((y : Int) % 2 != ((x : Int) / 2 ^ j).tmod 2)) = true := by
  rw [bit_of, bne_iff_ne]; omega
theorem rst_no (y x j : Nat) (h : y % 2 = x / 2 ^ j % 2) : (((y : Int) % 2 != ((x : Int) / 2 ^ j).tmod 2)) = false := by
  rw [bit_of, bne_eq_false_iff_eq]; omega
theorem flip_sub (r : Nat) (h : r < 4294967296) : (4294967295 : Int) - (r : Int) = ((4294967295 - r : Nat) : Int) := by omega

set_option maxHeartbeats 800000 in
theorem rsumOf_any (a : Option Addr) (n cap : Nat) (bs : List Nat) (w : World) (h : HoldsB w a n bs) (hn : n ≤ 4611686018427387904) :
    Calls Try.prog 68 #[.slice a n cap] w fun e w' => e = .returned (.int .u32 (Crc.sum bs)) ∧ w = w' := by
  have hl := h.len
  have hb := h.2
  rcases Nat.eq_zero_or_pos n with h0 | h0
  · subst h0
    obtain rfl := List.eq_nil_of_length_eq_zero hl
    clear h hl hb hn
    go_enter Try.func68, Try.ntmps68
    go_wp2
    go_loop [3, 4] (fun x i => i = .int .i64 0 ∧ x = .int .u32 4294967295) (fun _ _ => 0)
    case atStart => exact ⟨rfl, rfl⟩
    case round =>
      obtain ⟨rfl, rfl⟩ := hrel
      go_wp2
      go_ret
      exact ⟨rfl, rfl⟩
  · obtain ⟨b, o, rfl, hcell⟩ := h.at h0
    have HC := Lib.hid hcell; have HL := Lib.hid hl; have HB := Lib.hid hb
    clear hcell hl hb h
    go_enter Try.func68, Try.ntmps68
    go_wp2
    go_loop [3, 4] (fun x i => ∃ k : Nat, k ≤ n ∧ i = .int .i64 k ∧ x = .int .u32 (Crc.reg 4294967295 (bs.take k) : Nat)) (fun _ i => n - (intOf i).toNat)
    case atStart => exact ⟨0, by omega, rfl, rfl⟩
    case round =>
      obtain ⟨k, hk, rfl, rfl⟩ := hrel
      have hr := Crc.reg_lt (bs.take k) (fun x hx => HB.out x (List.mem_of_mem_take hx)) 4294967295 (by omega)
      by_cases hlt : k < n
      · have e1 := HC.out k hlt
        have hx := getD_lt HB.out k
        have hts := take_succ_getD bs 0 k (by rw [HL.out]; exact hlt)
        have hs : Crc.reg 4294967295 (bs.take (k + 1)) = Crc.rstN (Crc.reg 4294967295 (bs.take k)) (bs.getD k 0) 8 := by rw [hts, Crc.reg_append, Crc.rstN_8 _ _ hx]; rfl
        have HS := Lib.hid hs
        clear hs hts
        obtain ⟨x, hx1⟩ : ∃ x, bs.getD k 0 = x := ⟨_, rfl⟩
        obtain ⟨r, hr1⟩ : ∃ r, Crc.reg 4294967295 (bs.take k) = r := ⟨_, rfl⟩
        rw [hx1] at e1 hx HS
        rw [hr1] at hr HS ⊢
        clear hx1 hr1
        go_wp2
        go_loop [3, 5, 6] (fun c i _ => ∃ j : Nat, j ≤ 8 ∧ i = .int .i64 j ∧ c = .int .u32 (Crc.rstN r x j : Nat)) (fun _ i _ => 8 - (intOf i).toNat)
        case atStart => exact ⟨0, by omega, rfl, rfl⟩
        case round =>
          obtain ⟨j, hj, rfl, rfl⟩ := hrel
          have hy := Crc.rstN_lt hr hx j
          have hs : Crc.rstN r x (j + 1) = Crc.rst (Crc.rstN r x j) (x / 2 ^ j % 2) := rfl
          have HS2 := Lib.hid hs
          clear hs
          obtain ⟨y, hyy⟩ : ∃ y, Crc.rstN r x j = y := ⟨_, rfl⟩
          rw [hyy] at hy HS2 ⊢
          have HYY := Lib.hid hyy
          clear hyy
          by_cases hl8 : j < 8
          · by_cases hb : y % 2 = x / 2 ^ j % 2
            · have ht := rst_no y x j hb
              have HB2 := Lib.hid hb
              clear hb
              go_wp2
              go_round
              case rel => exact ⟨j + 1, by omega, by go_num, by rw [HS2.out, Crc.rst, if_neg (fun h => h HB2.out)]; go_num⟩
              case measure => simp [intOf]; omega
            · have ht := rst_yes y x j hb
              have HB2 := Lib.hid hb
              clear hb
              go_wp2
              go_round
              case rel => exact ⟨j + 1, by omega, by go_num, by rw [HS2.out, Crc.rst, if_pos HB2.out, xor_poly y hy]⟩
              case measure => simp [intOf]; omega
          · obtain rfl : j = 8 := by omega
            go_wp2
            go_round
            case rel => exact ⟨k + 1, by omega, by go_num, by rw [HS.out, HYY.out]⟩
            case measure => simp [intOf]; omega
      · have hkn : k = n := by omega
        have HK := Lib.hid hkn
        clear hkn
        go_wp2
        go_ret
        exact ⟨ret_int (by rw [flip_sub _ hr, List.take_of_length_le (by rw [HL.out, HK.out]; exact Nat.le_refl _)]; rfl), rfl⟩
end Go.Proofs.Ytlcmndbnknifhaa
/- pack: the document's reader, and Opened -/
namespace Go.Proofs.Ytlcmndbnknifhaa
open Go.RowKit
set_option linter.unusedVariables false
set_option maxRecDepth 20000
def numQ (bs : List Nat) (n at_ s : Nat) : Nat := if at_ + s ≤ n then numN bs at_ s else 0
def atQ (n at_ s : Nat) : Nat := if at_ + s ≤ n then at_ + s else at_
theorem atQ_le {n at_ s : Nat} (h : at_ ≤ n) : atQ n at_ s ≤ n := by
  unfold atQ
  split <;> omega
theorem numQ_lt (bs : List Nat) (n at_ s : Nat) (hb : ∀ b ∈ bs, b < 256) (hl : bs.length = n) : numQ bs n at_ s < 256 ^ s := by
  unfold numQ
  split
  · exact numN_lt bs at_ s hb (by omega)
  · exact Nat.pow_pos (by decide)
set_option maxHeartbeats 1600000 in
theorem rqNum_any (r : Nat) (a : Option Addr) (n cap : Nat) (bs : List Nat) (at_ : Nat) (bad : Bool) (s : Nat) (w : World) (m : RdM r a n cap bs at_ bad w) (hn : n ≤ 1048576) (hat : at_ ≤ n) (h1 : 1 ≤ s) (h4 : s ≤ 4) :
    Calls Try.prog 41 #[.pointer (some ⟨r, 0, none⟩), .int .i64 (s : Int)] w fun e w' => e = .returned (.int .i64 (numQ bs n at_ s : Nat)) ∧ RdM r a n cap bs (atQ n at_ s) (bad || !decide (at_ + s ≤ n)) w' ∧ Turn (fun k => k = r) w w' := by
  obtain ⟨c0, c1, c2, f, h, ne⟩ := m
  have M := Lib.hid (show RdM r a n cap bs at_ bad w from ⟨c0, c1, c2, f, h, ne⟩)
  have f1 := f 1
  have f2 := f 2
  have g0 := (World.cell?_of_block (w := w) (w' := w.drew) (a := ⟨r, 0, none⟩) rfl).trans c0
  have g1 := (World.cell?_of_block (w := w) (w' := w.drew) (a := ⟨r, 1, none⟩) rfl).trans c1
  have lr := lt_of_cell c0
  have STB := Lib.hid (show ∀ k, RdM r a n cap bs at_ true ((w.drewN k).setCell ⟨r, 2, none⟩ (.bool true)) ∧ Turn (fun q => q = r) w ((w.drewN k).setCell ⟨r, 2, none⟩ (.bool true)) from fun k => by
    have b := below_drewN w k
    have t : Turn (fun q => q = r) w ((w.drewN k).setCell ⟨r, 2, none⟩ (.bool true)) := (Turn.of_below b).trans (Turn.setCell rfl)
    exact ⟨⟨(cset_ne (by omega)).trans ((b.cell (p := ⟨r, 0, none⟩) lr).trans c0), (cset_ne (by omega)).trans ((b.cell (p := ⟨r, 1, none⟩) lr).trans c1), cset_at ((b.cell (p := ⟨r, 2, none⟩) lr).trans c2), fun i => fset_any.trans ((b.frozen (p := ⟨r, i, none⟩) lr).trans (f i)), holdsB_turn h t ne, ne⟩, t⟩)
  have STA := Lib.hid (show ∀ k (y : Nat), RdM r a n cap bs y bad ((w.drewN k).setCell ⟨r, 1, none⟩ (.int .i64 (y : Int))) ∧ Turn (fun q => q = r) w ((w.drewN k).setCell ⟨r, 1, none⟩ (.int .i64 (y : Int))) from fun k y => by
    have b := below_drewN w k
    have t : Turn (fun q => q = r) w ((w.drewN k).setCell ⟨r, 1, none⟩ (.int .i64 (y : Int))) := (Turn.of_below b).trans (Turn.setCell rfl)
    exact ⟨⟨(cset_ne (by omega)).trans ((b.cell (p := ⟨r, 0, none⟩) lr).trans c0), cset_at ((b.cell (p := ⟨r, 1, none⟩) lr).trans c1), (cset_ne (by omega)).trans ((b.cell (p := ⟨r, 2, none⟩) lr).trans c2), fun i => fset_any.trans ((b.frozen (p := ⟨r, i, none⟩) lr).trans (f i)), holdsB_turn h t ne, ne⟩, t⟩)
  by_cases hle : at_ + s ≤ n
  · have CN := Lib.hid (fun w' (hb : Below w.heap.size w w') => (show Calls Try.prog 67 #[.slice a n cap, .int .i64 (at_ : Int), .int .i64 (s : Int)] w' fun e w'' => e = .returned (.tuple #[.int .i64 (numN bs at_ s : Nat), .bool true]) ∧ w' = w'' from by
      have h2 := rnum_yes a n cap bs at_ s w' (h.below hb) (by omega) h1 (by omega) hle
      rw [wrap_small _ (by
        have h3 := numN_lt bs at_ s h.2 (by rw [h.len]; omega)
        have h5 : 256 ^ s ≤ 256 ^ 4 := Nat.pow_le_pow_right (by decide) h4
        have : (256 : Nat) ^ 4 = 4294967296 := by decide
        omega)] at h2
      exact h2))
    have EN : numQ bs n at_ s = numN bs at_ s := by unfold numQ; rw [if_pos hle]
    have EA : atQ n at_ s = at_ + s := by unfold atQ; rw [if_pos hle]
    have EB : (bad || !decide (at_ + s ≤ n)) = bad := by rw [decide_eq_true hle]; simp
    rw [EN, EA, EB]
    have e2 : (at_ : Int) + (s : Int) = ((at_ + s : Nat) : Int) := by omega
    obtain ⟨y, hy⟩ : ∃ y, at_ + s = y := ⟨_, rfl⟩
    rw [hy] at e2 ⊢
    clear hle h f hy EN EA EB
    go_enter Try.func41, Try.ntmps41
    go_wp2_with fail
    go_quiet ((go_at_call 67; exact Calls.quiet_of_same ((CN.out _ (by first | exact (Below.refl _ _).drew | exact below_drewN _ _)).mono (fun _ _ h => ⟨h.1, h.2.symm⟩))))
    go_wp2_with fail
    go_ret
    exact ⟨rfl, STA.out nq y⟩
  · have CN := Lib.hid (fun w' => (show Calls Try.prog 67 #[.slice a n cap, .int .i64 (at_ : Int), .int .i64 (s : Int)] w' fun e w'' => e = .returned (.tuple #[.int .i64 0, .bool false]) ∧ w' = w'' from
      rnum_no a n cap at_ s w' (by omega) (by omega)))
    have EN : numQ bs n at_ s = 0 := by unfold numQ; rw [if_neg hle]
    have EA : atQ n at_ s = at_ := by unfold atQ; rw [if_neg hle]
    have EB : (bad || !decide (at_ + s ≤ n)) = true := by rw [decide_eq_false hle]; simp
    rw [EN, EA, EB]
    clear hle h f EN EA EB
    go_enter Try.func41, Try.ntmps41
    go_wp2_with fail
    go_quiet ((go_at_call 67; exact Calls.quiet_of_same ((CN.out _).mono (fun _ _ h => ⟨h.1, h.2.symm⟩))))
    go_wp2_with fail
    go_ret
    exact ⟨rfl, STB.out nq⟩
theorem rOpened_any (a : Option Addr) (n cap : Nat) (bs : List Nat) (w : World) (h : HoldsB w a n bs) (hn : n ≤ 1048576) (hc : n ≤ cap) :
    Calls Try.prog 40 #[.slice a n cap] w fun e w' => e = .returned (.bool (openB bs)) ∧ w = w' := by
  have hl := h.len
  by_cases h4 : 4 ≤ n
  · obtain ⟨k, hk⟩ : ∃ k, n - 4 = k := ⟨_, rfl⟩
    have e1 : (n : Int) - 4 = (k : Int) := by omega
    have CN := Lib.hid (rnum_yes a n cap bs k 4 w h (by omega) (by omega) (by omega) (by omega))
    have CS := Lib.hid (show Calls Try.prog 68 #[.slice a k cap] w fun e w' => e = .returned (.int .u32 (Crc.sum (bs.take k))) ∧ w = w' from by
      obtain ⟨q, o, rfl, -⟩ := h.at (by omega)
      exact rsumOf_any (some ⟨q, o, none⟩) k cap (bs.take k) w (h.front k (by omega)) (by omega))
    obtain ⟨x, hx⟩ : ∃ x, numN bs k 4 = x := ⟨_, rfl⟩
    have hx4 : x < 4294967296 := by rw [← hx]; exact num4_lt bs k h.2 (by omega)
    obtain ⟨c, hcc⟩ : ∃ c, Crc.sum (bs.take k) = c := ⟨_, rfl⟩
    have hc4 : c < 4294967296 := by rw [← hcc]; exact sum_lt9 _
    rw [hx, wrap_small x (by omega), show ((4 : Nat) : Int) = 4 from rfl] at CN
    rw [hcc] at CS
    have OP : openB bs = ((x : Int) == (c : Int)) := by
      unfold openB
      rw [hl, hk, hx, hcc, decide_eq_true h4, Bool.true_and]
      by_cases h : x = c <;> simp [h]
      omega
    rw [OP]
    have d4 : decide ((n : Int) < 4) = false := decide_eq_false (by omega)
    have n1 : (0 : Int) ≤ (k : Int) := by omega
    have n2 : (k : Int) ≤ (cap : Int) := by omega
    have n3 : k ≤ cap := by omega
    clear hk hx hcc h hl OP h4
    go_enter Try.func40, Try.ntmps40
    go_wp2_with fail
    with_reducible refine CN.out.mono ?_
    rintro e w' ⟨rfl, rfl⟩
    go_wp2_with fail
    with_reducible refine CS.out.mono ?_
    rintro e w' ⟨rfl, rfl⟩
    go_wp2_with fail
    go_ret
    exact ⟨rfl, rfl⟩
  · have OT : openB bs = false := by unfold openB; rw [hl, decide_eq_false h4, Bool.false_and]
    rw [OT]
    have d4 : decide ((n : Int) < 4) = true := decide_eq_true (by omega)
    clear h hl h4 OT
    go_enter Try.func40, Try.ntmps40
    go_wp2_with fail
    go_ret
    exact ⟨rfl, rfl⟩
end Go.Proofs.Ytlcmndbnknifhaa
/- pack: the document's parts in memory -/
namespace Go.Proofs.Ytlcmndbnknifhaa
open Go.RowKit
set_option linter.unusedVariables false
set_option maxRecDepth 20000
/-- nodes in memory, each with its own edges, all from block B on -/
structure PQ9 (B : Nat) (NL : List PM) (na : Option Addr) (nc : Nat) (w : World) : Prop where
  o : w.ownsRow B 82 2 (.slice na NL.length nc) NL.length (pmV NL)
  e : ∀ x ∈ NL, w.ownsRow B 83 2 (.slice x.ea x.es.length x.ec) x.es.length (peV x.es)
  ne : ∀ x ∈ NL, ∀ k, x.ea = some ⟨k, 0, none⟩ → na ≠ some ⟨k, 0, none⟩
theorem PQ9.turn {B : Nat} {NL : List PM} {na : Option Addr} {nc : Nat} {w w' : World} {T : Nat → Prop} (h : PQ9 B NL na nc w) (t : Turn T w w') (h1 : ∀ k, na = some ⟨k, 0, none⟩ → ¬ T k) (h2 : ∀ x ∈ NL, ∀ k, x.ea = some ⟨k, 0, none⟩ → ¬ T k) : PQ9 B NL na nc w' :=
  ⟨own_turn9 h.o t h1, fun x hx => own_turn9 (h.e x hx) t (h2 x hx), h.ne⟩
/-- a node more -/
theorem PQ9.grow {B : Nat} {NL : List PM} {na : Option Addr} {nc g c : Nat} {x : PM} {w w8 : World} {ob : Obj} (h : PQ9 B NL na nc w) (hx : w.ownsRow B 83 2 (.slice x.ea x.es.length x.ec) x.es.length (peV x.es)) (hne : ∀ k, x.ea = some ⟨k, 0, none⟩ → na ≠ some ⟨k, 0, none⟩)
    (hown : w8.ownsRow B 82 2 (.slice (some ⟨g, 0, none⟩) (NL.length + 1) c) (NL.length + 1) (pmV NL ++ [.bool x.fin, .slice x.ea x.es.length x.ec])) (hg : (w.alloc ob).grownBy w8 (Value.slice na NL.length nc).ownBlock) (hat : (Value.slice na NL.length nc).ownBlock = some g ∨ g = (w.alloc ob).heap.size) : PQ9 B (NL ++ [x]) (some ⟨g, 0, none⟩) c w8 := by
  have hz : (w.alloc ob).heap.size = w.heap.size + 1 := by simp
  have t : Turn (fun k => some k = (Value.slice na NL.length nc).ownBlock) w w8 := (Turn.alloc _ w ob).trans (turn_grown9 hg)
  have el : (NL ++ [x]).length = NL.length + 1 := by rw [List.length_append]; rfl
  have all : ∀ y ∈ NL ++ [x], w.ownsRow B 83 2 (.slice y.ea y.es.length y.ec) y.es.length (peV y.es) ∧ ∀ k, y.ea = some ⟨k, 0, none⟩ → na ≠ some ⟨k, 0, none⟩ := fun y hy => by
    rcases List.mem_append.1 hy with hy | hy
    · exact ⟨h.e y hy, h.ne y hy⟩
    · obtain rfl : y = x := by simpa using hy
      exact ⟨hx, hne⟩
  refine ⟨by rw [el, pmV_app]; exact hown, fun y hy => own_turn9 (all y hy).1 t (fun k e e2 => (all y hy).2 k e (own_at9 h.o e2.symm)), fun y hy k e e2 => ?_⟩
  injection e2 with e2; injection e2 with e2; subst e2
  rcases hat with e3 | e3
  · exact (all y hy).2 g e (own_at9 h.o e3)
  · have := ((all y hy).1.lt g (by rw [e]; rfl)).2; omega
/-- the loop's state -/
structure QL9 (w0 : World) (r : Nat) (a : Option Addr) (n cap : Nat) (bs : List Nat) (at_ : Nat) (bad : Bool) (NL : List PM) (na : Option Addr) (nc : Nat) (w : World) : Prop where
  rd : RdM r a n cap bs at_ bad w
  q : PQ9 w0.heap.size NL na nc w
  nr : ∀ k, na = some ⟨k, 0, none⟩ → k ≠ r
  er : ∀ x ∈ NL, ∀ k, x.ea = some ⟨k, 0, none⟩ → k ≠ r
  r0 : w0.heap.size ≤ r
  b : Below w0.heap.size w0 w
/-- a node was read -/
theorem QL9.step {w0 : World} {r : Nat} {a : Option Addr} {n cap : Nat} {bs : List Nat} {at_ at2 : Nat} {bad bad2 : Bool} {NL : List PM} {na : Option Addr} {nc : Nat} {w w' w8 : World} {x : PM} {g c : Nat} {ob : Obj} (h : QL9 w0 r a n cap bs at_ bad NL na nc w) (ha : ∀ q o, a = some ⟨q, o, none⟩ → q < w0.heap.size) (m : RdM r a n cap bs at2 bad2 w') (t : Turn (fun k => k = r) w w') (hx : w'.ownsRow w.heap.size 83 2 (.slice x.ea x.es.length x.ec) x.es.length (peV x.es))
    (hown : w8.ownsRow w0.heap.size 82 2 (.slice (some ⟨g, 0, none⟩) (NL.length + 1) c) (NL.length + 1) (pmV NL ++ [.bool x.fin, .slice x.ea x.es.length x.ec])) (hg : (w'.alloc ob).grownBy w8 (Value.slice na NL.length nc).ownBlock) (hat : (Value.slice na NL.length nc).ownBlock = some g ∨ g = (w'.alloc ob).heap.size) :
    QL9 w0 r a n cap bs at2 bad2 (NL ++ [x]) (some ⟨g, 0, none⟩) c w8 := by
  have hz : (w'.alloc ob).heap.size = w'.heap.size + 1 := by simp
  have q' : PQ9 w0.heap.size NL na nc w' := h.q.turn t h.nr h.er
  have lr : r < w'.heap.size := lt_of_cell m.c0
  have lrw : r < w.heap.size := lt_of_cell h.rd.c0
  have hxb : ∀ k, x.ea = some ⟨k, 0, none⟩ → w.heap.size ≤ k := fun k e => (hx.lt k (by rw [e]; rfl)).1
  have nb : ∀ k, some k = (Value.slice na NL.length nc).ownBlock → na = some ⟨k, 0, none⟩ := fun k e => own_at9 q'.o e.symm
  have t8 : Turn (fun k => some k = (Value.slice na NL.length nc).ownBlock) w' w8 := (Turn.alloc _ w' ob).trans (turn_grown9 hg)
  refine ⟨m.turn t8 (fun e => h.nr r (nb r e) rfl) (fun q o e e2 => ?_), q'.grow (base_less9 hx h.b.size) (fun k e e2 => ?_) hown hg hat, fun k e => ?_, fun y hy k e => ?_, h.r0, ?_⟩
  · have h1 := ha q o e
    have h2 := (q'.o.lt q e2.symm).1
    omega
  · have h1 := hxb k e
    have h2 := (h.q.o.lt k (by rw [e2]; rfl)).2
    omega
  · injection e with e; injection e with e; subst e
    rcases hat with e3 | e3
    · exact h.nr g (own_at9 q'.o e3)
    · omega
  · rcases List.mem_append.1 hy with hy | hy
    · exact h.er y hy k e
    · obtain rfl : y = x := by simpa using hy
      have := hxb k e
      omega
  · have hB := h.b.size
    have t9 : Turn (fun k => w0.heap.size ≤ k) w w8 := ⟨t8.os.trans t.os, t8.tape.trans t.tape, t8.output.trans t.output, Nat.le_trans t.size t8.size, fun k hk hn => (t8.block k (Nat.lt_of_lt_of_le hk t.size) (fun e => hn (q'.o.lt k e.symm).1)).trans (t.block k hk (fun e => hn (by rw [e]; exact h.r0)))⟩
    exact h.b.trans (t9.below (fun k hk => hk) hB)
theorem qpart_info : (Try.prog.info? 82).map (fun i => (i.zero, i.size, i.bytes)) = some (some (.agg #[.bool false, .slice none 0 0]), 2, 32) := by kernel_rfl
theorem qpair_info : (Try.prog.info? 83).map (fun i => (i.zero, i.size, i.bytes)) = some (some (.agg #[.int .i64 0, .int .i64 0]), 2, 16) := by kernel_rfl
/-- the state of the loop over a part's edges -/
structure LQ (w0 : World) (r : Nat) (a : Option Addr) (n cap : Nat) (bs : List Nat) (at_ : Nat) (bad : Bool) (M : Nat) (fin : Bool) (es : List PE) (ea : Option Addr) (ec : Nat) (w : World) : Prop where
  rd : RdM r a n cap bs at_ bad w
  c0 : w.cell? ⟨M, 0, none⟩ = some (.bool fin)
  c1 : w.cell? ⟨M, 1, none⟩ = some (.slice ea es.length ec)
  f1 : w.frozen? ⟨M, 1, none⟩ = false
  o : w.ownsRow w0.heap.size 83 2 (.slice ea es.length ec) es.length (peV es)
  ne : ∀ k, ea = some ⟨k, 0, none⟩ → k ≠ M
  M0 : w0.heap.size ≤ M
  t : Turn (fun k => k = r) w0 w
theorem LQ.below {w0 : World} {r : Nat} {a : Option Addr} {n cap : Nat} {bs : List Nat} {at_ : Nat} {bad : Bool} {M : Nat} {fin : Bool} {es : List PE} {ea : Option Addr} {ec : Nat} {w w' : World} (h : LQ w0 r a n cap bs at_ bad M fin es ea ec w) (hb : Below w.heap.size w w') : LQ w0 r a n cap bs at_ bad M fin es ea ec w' := by
  have lm := lt_of_cell h.c0
  exact ⟨h.rd.turn (S := fun _ => False) (Turn.of_below hb) (fun x => x) (fun q o e x => x), (hb.cell (p := ⟨M, 0, none⟩) lm).trans h.c0, (hb.cell (p := ⟨M, 1, none⟩) lm).trans h.c1, (hb.frozen (p := ⟨M, 1, none⟩) lm).trans h.f1, owns_below h.o hb, h.ne, h.M0, h.t.trans (Turn.of_below hb)⟩
theorem LQ.num {w0 : World} {r : Nat} {a : Option Addr} {n cap : Nat} {bs : List Nat} {at_ at2 : Nat} {bad bad2 : Bool} {M : Nat} {fin : Bool} {es : List PE} {ea : Option Addr} {ec : Nat} {w w' : World} (h : LQ w0 r a n cap bs at_ bad M fin es ea ec w) (hr : r < w0.heap.size) (m : RdM r a n cap bs at2 bad2 w') (t : Turn (fun k => k = r) w w') : LQ w0 r a n cap bs at2 bad2 M fin es ea ec w' := by
  have lm := lt_of_cell h.c0
  have hM : ¬ M = r := by have := h.M0; omega
  refine ⟨m, (t.cell lm hM).trans h.c0, (t.cell lm hM).trans h.c1, (t.frozen lm hM).trans h.f1, ?_, h.ne, h.M0, h.t.trans t⟩
  rcases h.o.2 with h1 | ⟨g, cap', cur, hv, hge, hh, x⟩
  · exact ⟨h.o.1, .inl h1⟩
  · have hl : g < w.heap.size := by
      rcases Nat.lt_or_ge g w.heap.size with h2 | h2
      · exact h2
      · rw [Array.getElem?_eq_none h2] at hh; cases hh
    exact ⟨h.o.1, .inr ⟨g, cap', cur, hv, hge, (t.block g hl (by omega)).trans hh, x⟩⟩
theorem LQ.app {w0 : World} {r : Nat} {a : Option Addr} {n cap : Nat} {bs : List Nat} {at_ : Nat} {bad : Bool} {M : Nat} {fin : Bool} {es : List PE} {ea : Option Addr} {ec g c : Nat} {x : PE} {w w8 : World} {ob : Obj} (h : LQ w0 r a n cap bs at_ bad M fin es ea ec w) (hr : r < w0.heap.size) (ha : ∀ q o, a = some ⟨q, o, none⟩ → q < w0.heap.size)
    (hown : w8.ownsRow w0.heap.size 83 2 (.slice (some ⟨g, 0, none⟩) (es.length + 1) c) (es.length + 1) (peV es ++ [.int .i64 (x.1 : Int), .int .i64 (x.2 : Int)])) (hg : (w.alloc ob).grownBy w8 (Value.slice ea es.length ec).ownBlock) (hat : (Value.slice ea es.length ec).ownBlock = some g ∨ g = (w.alloc ob).heap.size) :
    LQ w0 r a n cap bs at_ bad M fin (es ++ [x]) (some ⟨g, 0, none⟩) c (w8.setCell ⟨M, 1, none⟩ (.slice (some ⟨g, 0, none⟩) (es.length + 1) c)) := by
  have lm := lt_of_cell h.c0
  have hz : (w.alloc ob).heap.size = w.heap.size + 1 := by simp
  have ob0 : ∀ k, some k = (Value.slice ea es.length ec).ownBlock → w0.heap.size ≤ k ∧ k ≠ M := fun k e => ⟨(h.o.lt k e.symm).1, h.ne k (own_at9 h.o e.symm)⟩
  have gM : g ≠ M := by
    rcases hat with e | e
    · exact (ob0 g e.symm).2
    · omega
  have t1 : Turn (fun k => w0.heap.size ≤ k) w w8 := (Turn.alloc _ w ob).trans ⟨hg.os, hg.tape, hg.output, hg.size, fun k hk hn => hg.block k hk (fun e => hn (ob0 k e).1)⟩
  have cm : ∀ i, w8.cell? ⟨M, i, none⟩ = w.cell? ⟨M, i, none⟩ := fun i => (hg.cell_far ⟨M, i, none⟩ (by rw [hz]; exact Nat.lt_succ_of_lt lm) (fun e => (ob0 M e).2 rfl)).trans (cell_alloc_old lm)
  have fm : w8.frozen? ⟨M, 1, none⟩ = false := (hg.frozen_far ⟨M, 1, none⟩ (by rw [hz]; exact Nat.lt_succ_of_lt lm) (fun e => (ob0 M e).2 rfl)).trans (((below_one w ob).frozen (p := ⟨M, 1, none⟩) lm).trans h.f1)
  have t2 : Turn (fun k => w0.heap.size ≤ k) w (w8.setCell ⟨M, 1, none⟩ (.slice (some ⟨g, 0, none⟩) (es.length + 1) c)) := t1.trans (Turn.setCell h.M0)
  have el : (es ++ [x]).length = es.length + 1 := by rw [List.length_append]; rfl
  refine ⟨h.rd.turn t2 (by omega) (fun q o e => by have := ha q o e; omega), (cset_ne (by omega)).trans ((cm 0).trans h.c0), ?_, fset_any.trans fm, ?_, fun k e => by injection e with e; injection e with e; omega, h.M0, ⟨t2.os.trans h.t.os, t2.tape.trans h.t.tape, t2.output.trans h.t.output, Nat.le_trans h.t.size t2.size, fun k hk hn => (t2.block k (Nat.lt_of_lt_of_le hk h.t.size) (by omega)).trans (h.t.block k hk hn)⟩⟩
  · rw [el]; exact cset_at ((cm 1).trans h.c1)
  · rw [el, peV_app]
    exact gowns_block hown (fun q e => by
      injection e with e; injection e with e
      subst e
      exact Below.heap_setCell _ _ _ _ gM)
theorem LQ.kept {w0 : World} {r : Nat} {a : Option Addr} {n cap : Nat} {bs : List Nat} {at_ : Nat} {bad : Bool} {M : Nat} {fin : Bool} {es : List PE} {ea : Option Addr} {ec : Nat} {w w8 : World} {ob : Obj} (h : LQ w0 r a n cap bs at_ bad M fin es ea ec w) (hg : (w.alloc ob).grownBy w8 (Value.slice ea es.length ec).ownBlock) : w8.cell? ⟨M, 1, none⟩ = some (.slice ea es.length ec) ∧ w8.frozen? ⟨M, 1, none⟩ = false := by
  have lm := lt_of_cell h.c0
  have hz : (w.alloc ob).heap.size = w.heap.size + 1 := by simp
  have ne : some M ≠ (Value.slice ea es.length ec).ownBlock := fun e => h.ne M (own_at9 h.o e.symm) rfl
  exact ⟨(hg.cell_far ⟨M, 1, none⟩ (by rw [hz]; exact Nat.lt_succ_of_lt lm) ne).trans ((cell_alloc_old lm).trans h.c1), (hg.frozen_far ⟨M, 1, none⟩ (by rw [hz]; exact Nat.lt_succ_of_lt lm) ne).trans (((below_one w ob).frozen (p := ⟨M, 1, none⟩) lm).trans h.f1)⟩
theorem rqNum9 (s : Nat) (si : Int) (hsi : si = (s : Int)) (h1 : 1 ≤ s) (h4 : s ≤ 4) (v at2 : Nat) (bad2 : Bool) {w0 w : World} {r : Nat} {a : Option Addr} {n cap : Nat} {bs : List Nat} {at_ : Nat} {bad : Bool} {M : Nat} {fin : Bool} {es : List PE} {ea : Option Addr} {ec : Nat} (h : LQ w0 r a n cap bs at_ bad M fin es ea ec w) (hr : r < w0.heap.size) (hn : n ≤ 1048576) (hat : at_ ≤ n) (hv : numQ bs n at_ s = v) (h2 : atQ n at_ s = at2) (hb : (bad || !decide (at_ + s ≤ n)) = bad2) :
    Calls Try.prog 41 #[.pointer (some ⟨r, 0, none⟩), .int .i64 si] w fun e w' => e = .returned (.int .i64 (v : Int)) ∧ LQ w0 r a n cap bs at2 bad2 M fin es ea ec w' := by
  subst hsi hv h2 hb
  exact (rqNum_any r a n cap bs at_ bad s w h.rd hn hat h1 h4).mono fun e w' ⟨e1, m, t⟩ => ⟨e1, h.num hr m t⟩
end Go.Proofs.Ytlcmndbnknifhaa
/- graph: Next, Has -/
namespace Go.Proofs.Ytlcmndbnknifhaa
open Go.RowKit
set_option linter.unusedVariables false
set_option maxRecDepth 20000
def findE (r : Int) : List EdP → Int × Bool
  | [] => (0, false)
  | e :: l => if e.r = r then (e.dst, true) else findE r l
theorem findE_at (r : Int) : ∀ (es : List EdP) (j : Nat), j < es.length → (∀ x ∈ es.take j, x.r ≠ r) → (es.getD j ed0).r = r → findE r es = ((es.getD j ed0).dst, true)
  | [], j, h, _, _ => by simp at h
  | e :: l, 0, _, _, h => by
    have h' : e.r = r := h
    rw [findE, if_pos h']; rfl
  | e :: l, j + 1, h, ha, hr => by
    have h' : e.r ≠ r := ha e (by simp)
    rw [findE, if_neg h']
    exact findE_at r l j (by simpa using h) (fun x hx => ha x (by simp [hx])) hr
theorem findE_none (r : Int) : ∀ (es : List EdP), (∀ x ∈ es, x.r ≠ r) → findE r es = (0, false)
  | [], _ => rfl
  | e :: l, h => by
    rw [findE, if_neg (h e (by simp))]
    exact findE_none r l (fun x hx => h x (by simp [hx]))
def nextG (st : List GN) (n r : Int) : Int × Bool := findE r (edgesG st n)
theorem take_ed (l : List EdP) (j : Nat) (h : j < l.length) : l.take (j + 1) = l.take j ++ [l.getD j ed0] := by
  rw [List.take_add_one, List.getElem?_eq_getElem h, List.getD_eq_getElem?_getD, List.getElem?_eq_getElem h]; rfl
/-- where a text leads from a node on -/
def walkG (st : List GN) : List Nat → Int → Option Int
  | [], n => some n
  | r :: l, n => if (nextG st n (r : Int)).2 then walkG st l (nextG st n (r : Int)).1 else none
def endG (st : List GN) : Option Int → Bool
  | some n => finG st n
  | none => false
def hasW (st : List GN) (rs : List Nat) : Bool := endG st (walkG st rs 0)
end Go.Proofs.Ytlcmndbnknifhaa
/- graph: Has -/
namespace Go.Proofs.Ytlcmndbnknifhaa
open Go.RowKit
set_option linter.unusedVariables false
set_option maxRecDepth 20000
end Go.Proofs.Ytlcmndbnknifhaa
/- two lists of api.Edge: held against each other -/
namespace Go.Proofs.Ytlcmndbnknifhaa
open Go.RowKit
set_option linter.unusedVariables false
set_option maxRecDepth 20000
theorem ssEdges (x : ByteArray) : (x.toList == x.toList) = true := by simp
end Go.Proofs.Ytlcmndbnknifhaa
/- graph: awake, and of no graph -/
namespace Go.Proofs.Ytlcmndbnknifhaa
open Go.RowKit
set_option linter.unusedVariables false
set_option maxRecDepth 20000
def gAB : Tx := ⟨#[97, 98]⟩
def gCB : Tx := ⟨#[99, 98]⟩
def gB : Tx := ⟨#[98]⟩
theorem aw_good : goodV [gAB, gCB] = 0 := by kernel_rfl
theorem aw_len : (grS [gAB, gCB]).length = 3 := by kernel_rfl
theorem aw_e0 : edgesG (grS [gAB, gCB]) 0 = [⟨97, 1⟩, ⟨99, 1⟩] := by kernel_rfl
theorem aw_has : hasW (grS [gAB, gCB]) (runesS gAB) = true := by kernel_rfl
theorem aw_hasnt : hasW (grS [gAB, gCB]) (runesS gB) = false := by kernel_rfl
theorem aw_few : ∀ x ∈ grS [gAB, gCB], x.edges.length ≤ 1000 := by
  have h : (grS [gAB, gCB]).all (fun x => decide (x.edges.length ≤ 1000)) = true := by kernel_rfl
  intro x hx
  exact of_decide_eq_true (List.all_eq_true.1 h x hx)
theorem holdsT_litG (w : World) (a b : Tx) (e : TypeId) (fr : Nat × Nat) : HoldsT (w.alloc (.cells #[.string a, .string b] e fr)) (some ⟨w.heap.size, 0, none⟩) 2 [a, b] := by
  refine ⟨by simp [strsV], fun _ => ⟨w.heap.size, 0, rfl, fun i hi => ?_⟩⟩
  rw [Nat.zero_add, World.cell?_alloc_mark]
  match i, hi with
  | 0, _ => rfl
  | 1, _ => rfl
theorem holdsEd_lit2 (w : World) (a b : EdP) (e : TypeId) (fr : Nat × Nat) : HoldsEd (w.alloc (.cells #[.int .i32 a.r, .int .i64 a.dst, .int .i32 b.r, .int .i64 b.dst] e fr)) (some ⟨w.heap.size, 0, none⟩) 2 [a, b] := by
  refine ⟨rfl, fun _ => ⟨w.heap.size, 0, rfl, fun i hi => ?_⟩⟩
  match i, hi with
  | 0, _ => constructor <;> (rw [World.cell?_alloc_mark]; rfl)
  | 1, _ => constructor <;> (rw [World.cell?_alloc_mark]; rfl)
/-- a graph in a world that has grown, its blocks the call's own -/
structure CtxG (w0 w : World) (g : Nat) (st : List GN) (S : Nat → Prop) : Prop where
  G : GAt g st w S
  s : ∀ k, S k → w0.heap.size ≤ k
  b : Below w0.heap.size w0 w
theorem CtxG.more {w0 w w' : World} {g : Nat} {st : List GN} {S : Nat → Prop} (c : CtxG w0 w g st S) (hb : Below w.heap.size w w') : CtxG w0 w' g st S :=
  ⟨(gAt_ok g st).below c.G hb, c.s, c.b.trans (hb.mono c.b.size)⟩
theorem build_c {w0 : World} (a : Option Addr) (n cap : Nat) (ts : List Tx) (st : List GN) (w : World) (hw : Below w0.heap.size w0 w) (hh : HoldsT w a n ts) (hc : n ≤ cap) (hn : n ≤ 9223372036854775807) (hs : ∀ t ∈ ts, t.size ≤ 100) (hv : goodV ts = 0) (hst : grS ts = st) :
    Calls Try.prog 14 #[.slice a n cap] w fun e w' => ∃ g S, e = .returned (.tuple #[.pointer (some ⟨g, 0, none⟩), .int .i64 0]) ∧ CtxG w0 w' g st S ∧ Below w.heap.size w w' := by
  subst hst
  exact (build_good a n cap ts w hh hc hn hs hv).mono fun e w' ⟨g, S, e1, h1, h2, h3⟩ => ⟨g, S, e1, ⟨h1, fun k hk => Nat.le_trans hw.size (h2 k hk), hw.trans (h3.mono hw.size)⟩, h3⟩
theorem gNodes_c (v : Int) {w0 : World} {g : Nat} {st : List GN} {S : Nat → Prop} (w : World) (c : CtxG w0 w g st S) (hv : (st.length : Int) = v) :
    Calls Try.prog 25 #[.pointer (some ⟨g, 0, none⟩)] w fun e w' => e = .returned (.int .i64 v) ∧ w = w' := by subst hv; exact gNodes_any g st S w c.G
theorem gEdges_c (n : Int) (es : List EdP) {w0 : World} {g : Nat} {st : List GN} {S : Nat → Prop} (w : World) (c : CtxG w0 w g st S) (hE : ∀ x ∈ st, x.edges.length ≤ 1000) (hv : edgesG st n = es) :
    Calls Try.prog 26 #[.pointer (some ⟨g, 0, none⟩), .int .i64 n] w (RetEd w es) := by subst hv; exact gEdges_any g st S n w c.G hE
end Go.Proofs.Ytlcmndbnknifhaa
/- graph: what a built graph keeps, plain -/
namespace Go.Proofs.Ytlcmndbnknifhaa
open Go.RowKit
set_option linter.unusedVariables false
set_option maxRecDepth 20000
def restsG (st : List GN) : List (List Tx) := st.map GN.rests
/-- the edges of the texts' first runes, each to a node of what is behind it -/
def EdOk (R : List (List Tx)) : List Tx → List EdP → Prop
  | l, [] => l = []
  | l, e :: es => l ≠ [] ∧ e.r = ((folS l).1 : Int) ∧ (∃ k : Nat, e.dst = (k : Int) ∧ R[k]? = some (folS l).2) ∧ EdOk R (l.drop (folS l).2.length) es
theorem EdOk.app {R T : List (List Tx)} : ∀ {es : List EdP} {l : List Tx}, EdOk R l es → EdOk (R ++ T) l es
  | [], l, h => h
  | e :: es, l, h => by
    obtain ⟨h1, h2, ⟨k, h3, h4⟩, h5⟩ := h
    have hk := (List.getElem?_eq_some_iff.1 h4).1
    exact ⟨h1, h2, ⟨k, h3, by rw [List.getElem?_append_left hk]; exact h4⟩, h5.app⟩
theorem OkL.mono {f g : Nat} {l : List Tx} (h : OkL f l) (hg : f ≤ g) : OkL g l := ⟨h.ord, h.lo, fun t ht => by have := h.hi t ht; omega, h.n, h.sz⟩
structure NOk (R : List (List Tx)) (g : GN) : Prop where
  fin : g.final = finS g.rests
  ed : EdOk R (bodS g.rests) g.edges
  ok : OkL 12 g.rests
theorem NOk.app {R T : List (List Tx)} {g : GN} (h : NOk R g) : NOk (R ++ T) g := ⟨h.fin, h.ed.app, h.ok⟩
theorem restsG_app (a b : List GN) : restsG (a ++ b) = restsG a ++ restsG b := by simp [restsG]
theorem find_none {st : List GN} {s : List Tx} (h : findG st s = none) : s ∉ restsG st := by
  unfold findG at h
  rw [List.findIdx?_eq_none_iff] at h
  intro hm
  obtain ⟨g, hg, e⟩ := List.mem_map.1 hm
  have := h g hg
  simp [e] at this
theorem find_some {st : List GN} {s : List Tx} {i : Nat} (h : findG st s = some i) : (restsG st)[i]? = some s := by
  unfold findG at h
  obtain ⟨h1, h2, -⟩ := List.findIdx?_eq_some_iff_getElem.1 h
  have e : st[i].rests = s := of_decide_eq_true h2
  rw [restsG, List.getElem?_map, List.getElem?_eq_getElem h1, Option.map_some, e]
theorem reach_found {f : Nat} {st : List GN} {s : List Tx} {i : Nat} (h : findG st s = some i) : reachF (f + 1) st s = (i, st) := by unfold reachF; rw [h]
theorem set_mid {α : Type} (a b : List α) (x y : α) : ((a ++ [x]) ++ b).set a.length y = a ++ (y :: b) := by
  rw [List.append_assoc, List.set_append_right _ _ (Nat.le_refl _), Nat.sub_self]; rfl
theorem reach_new {f : Nat} {st t : List GN} {s : List Tx} {es : List EdP} (h : findG st s = none) (hk : edgesF (reachF f) (bodS s).length (bodS s) [] (st ++ [⟨s, false, []⟩]) = (es, (st ++ [⟨s, false, []⟩]) ++ t)) :
    reachF (f + 1) st s = (st.length, st ++ (⟨s, finS s, es⟩ :: t)) := by
  unfold reachF
  rw [h, hk]
  simp only [set_mid]
structure ROk (st t : List GN) (s : List Tx) (i : Nat) : Prop where
  at_ : (restsG (st ++ t))[i]? = some s
  nodes : ∀ g ∈ t, NOk (restsG (st ++ t)) g
  nodup : (restsG st).Nodup → (restsG (st ++ t)).Nodup
  some_ : s ≠ [] → ∀ g ∈ t, g.rests ≠ []
theorem rok_new {f : Nat} {st t : List GN} {s : List Tx} {es : List EdP} (hs : OkL 12 s) (h : findG st s = none) (he : EdOk (restsG ((st ++ [⟨s, false, []⟩]) ++ t)) (bodS s) es) (hn : ∀ g ∈ t, NOk (restsG ((st ++ [⟨s, false, []⟩]) ++ t)) g) (hd : (restsG (st ++ [⟨s, false, []⟩])).Nodup → (restsG ((st ++ [⟨s, false, []⟩]) ++ t)).Nodup) (hm : s ≠ [] → ∀ g ∈ t, g.rests ≠ []) :
    ROk st (⟨s, finS s, es⟩ :: t) s st.length := by
  have e : restsG (st ++ (⟨s, finS s, es⟩ :: t)) = restsG ((st ++ [⟨s, false, []⟩]) ++ t) := by simp [restsG]
  have hl : (restsG st).length = st.length := by simp [restsG]
  refine ⟨?_, fun g hg => ?_, fun hnd => ?_, fun h0 g hg => ?_⟩
  · rw [restsG_app, List.getElem?_append_right (by omega), hl, Nat.sub_self]; rfl
  · rw [e]
    rcases List.mem_cons.1 hg with rfl | hg
    · exact ⟨rfl, he, hs⟩
    · exact hn g hg
  · rw [e]
    refine hd ?_
    rw [restsG_app]
    refine List.nodup_append.2 ⟨hnd, by simp [restsG], fun a ha b hb => ?_⟩
    simp only [restsG, List.map_cons, List.map_nil, List.mem_singleton] at hb
    subst hb
    exact fun e2 => find_none h (e2 ▸ ha)
  · rcases List.mem_cons.1 hg with rfl | hg
    · exact h0
    · exact hm h0 g hg
theorem bod_none {s : List Tx} (h : OkL 0 s) : bodS s = [] := by
  cases hbs : bodS s with
  | nil => rfl
  | cons t l =>
    have hm : t ∈ bodS s := by rw [hbs]; simp
    have h1 := bod_pos h.ord t hm
    have h2 := rst_len (h.bod.lo t hm) h1
    have h3 := h.bod.hi t hm
    omega
theorem reach_ok (f : Nat) (hf : f ≤ 12) : ∀ (st : List GN) (s : List Tx), OkL f s → ∃ t i, reachF (f + 1) st s = (i, st ++ t) ∧ ROk st t s i := by
  induction f with
  | zero =>
    intro st s h
    cases hfd : findG st s with
    | some i => exact ⟨[], i, by rw [reach_found hfd, List.append_nil], ⟨by rw [List.append_nil]; exact find_some hfd, fun g hg => by simp at hg, fun h => by rwa [List.append_nil], fun _ g hg => by simp at hg⟩⟩
    | none =>
      have hb := bod_none h
      refine ⟨[⟨s, finS s, []⟩], st.length, reach_new (t := []) hfd (by rw [hb, List.append_nil]; rfl), rok_new (f := 0) (t := []) (h.mono hf) hfd (by rw [hb]; rfl) (fun g hg => by simp at hg) (fun h => by rwa [List.append_nil]) (fun _ g hg => by simp at hg)⟩
  | succ f ih =>
    intro st s h
    cases hfd : findG st s with
    | some i => exact ⟨[], i, by rw [reach_found hfd, List.append_nil], ⟨by rw [List.append_nil]; exact find_some hfd, fun g hg => by simp at hg, fun h => by rwa [List.append_nil], fun _ g hg => by simp at hg⟩⟩
    | none =>
      have key : ∀ (n : Nat) (l : List Tx) (es : List EdP) (st1 : List GN), l.length ≤ n → OkL (f + 1) l → (∀ t ∈ l, 0 < t.size) → ∃ t es', edgesF (reachF (f + 1)) n l es st1 = (es ++ es', st1 ++ t) ∧ EdOk (restsG (st1 ++ t)) l es' ∧ (∀ g ∈ t, NOk (restsG (st1 ++ t)) g) ∧ ((restsG st1).Nodup → (restsG (st1 ++ t)).Nodup) ∧ ∀ g ∈ t, g.rests ≠ [] := by
        intro n
        induction n with
        | zero =>
          intro l es st1 hn _ _
          obtain rfl : l = [] := List.eq_nil_of_length_eq_zero (by omega)
          exact ⟨[], [], by simp [edgesF], rfl, fun g hg => by simp at hg, fun h => by rwa [List.append_nil], fun g hg => by simp at hg⟩
        | succ n ihn =>
          intro l es st1 hn hl hp
          by_cases h0 : l = []
          · subst h0
            exact ⟨[], [], by simp [edgesF], rfl, fun g hg => by simp at hg, fun h => by rwa [List.append_nil], fun g hg => by simp at hg⟩
          · obtain ⟨hfl, hfl2⟩ := fol_len l h0
            obtain ⟨t1, i, e1, r1⟩ := ih (by omega) st1 (folS l).2 (hl.fol hp)
            obtain ⟨t2, es2, e2, d1, d2, d3, d4⟩ := ihn (l.drop (folS l).2.length) (es ++ [⟨((folS l).1 : Int), (i : Int)⟩]) (st1 ++ t1) (by rw [List.length_drop]; omega) (hl.drop _) (fun t ht => hp t (List.mem_of_mem_drop ht))
            have hne : (folS l).2 ≠ [] := fun e => by rw [e] at hfl; simp at hfl
            refine ⟨t1 ++ t2, ⟨((folS l).1 : Int), (i : Int)⟩ :: es2, ?_, ?_, fun g hg => ?_, fun hd => ?_, fun g hg => ?_⟩
            · unfold edgesF
              rw [if_neg h0, e1]
              simp only
              rw [e2, List.append_assoc, List.append_assoc]; rfl
            · rw [← List.append_assoc]
              refine ⟨h0, rfl, ⟨i, rfl, ?_⟩, d1⟩
              rw [restsG_app, List.getElem?_append_left (List.getElem?_eq_some_iff.1 r1.at_).1]
              exact r1.at_
            · rw [← List.append_assoc]
              rcases List.mem_append.1 hg with hg | hg
              · rw [restsG_app]; exact (r1.nodes g hg).app
              · exact d2 g hg
            · rw [← List.append_assoc]; exact d3 (r1.nodup hd)
            · rcases List.mem_append.1 hg with hg | hg
              · exact r1.some_ hne g hg
              · exact d4 g hg
      obtain ⟨t, es, k1, k2, k3, k4, k5⟩ := key (bodS s).length (bodS s) [] (st ++ [⟨s, false, []⟩]) (Nat.le_refl _) h.bod (bod_pos h.ord)
      exact ⟨_, _, reach_new hfd k1, rok_new (f := 0) (h.mono hf) hfd k2 k3 k4 (fun _ => k5)⟩
/-- the nodes of the words -/
structure GOk (st : List GN) (ts : List Tx) : Prop where
  root : (restsG st)[0]? = some ts
  nodes : ∀ g ∈ st, NOk (restsG st) g
  nodup : (restsG st).Nodup
  some_ : ts ≠ [] → ∀ g ∈ st, g.rests ≠ []
theorem graph_ok {ts : List Tx} (h : OkL 12 ts) : GOk (reachF 13 [] ts).2 ts := by
  obtain ⟨t, i, e, r⟩ := reach_ok 12 (Nat.le_refl _) [] ts h
  have h0 : (reachF 13 [] ts).1 = 0 := by
    unfold reachF
    have : findG [] ts = none := rfl
    rw [this]; rfl
  rw [e] at h0 ⊢
  simp only [List.nil_append] at *
  subst h0
  exact ⟨by simpa using r.at_, fun g hg => by simpa using r.nodes g hg, by simpa [restsG] using r.nodup (by simp [restsG]), r.some_⟩
end Go.Proofs.Ytlcmndbnknifhaa
