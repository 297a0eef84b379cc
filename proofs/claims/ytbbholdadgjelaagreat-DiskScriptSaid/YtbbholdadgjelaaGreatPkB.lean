/- texts joined -/
import Derived.Test.YtbbholdadgjelaaGreatPkA
import Derived.Deep.AppendLies
import Derived.Laws.AppendOwn
import Derived.Laws.AppendOwnNone
import Derived.Test.YtbbholdadgjelaaGreatChecked
import Derived.Maps.OwnSet
import Derived.StringKeys
import Derived.WalkArith
import Derived.Deep.DeepCutAuto
import Derived.Deep.RegionHeld3
import Derived.Deep.RegionLaw
import Derived.Laws.OwnMore
import Derived.Lib.SliceRun
import Derived.Deep.RegionWith
/- append at a step of a region that draws: the new value written out -/
namespace Go.Proofs.YtbbholdadgjelaaGreat
open Go.RowKit
set_option linter.unusedVariables false
set_option maxRecDepth 20000
theorem step_append_some {P : Program} {w : World} {ops : Array Oper} {o : Oper} {a : Act} {K : Act → World → Prop} {Q : Exit → Act → World → Prop} {E : Prop} (hgd : o.guard = none) (s x : Operand) (t : TypeId)
    (ho : o.op = .call { callee := .builtin .append, args := #[s, x], argTypes := #[t, t] })
    (base : Nat) (e : TypeId) (i : TypeInfo) (z : Value) (size bytes : Nat) (ht : P.underlying t = some (.slice e)) (hi : P.info? e = some i) (hz : i.zero = some z)
    (hsize : i.size = size) (hby : i.bytes = bytes) (hzs : z.cells.size = size) (hsz : 0 < size)
    (v : Value) (n : Nat) (xs : List Value) (hs : a.eval s = v) (hown : w.ownsRow base e size v n xs)
    (ad : Addr) (m c : Nat) (news : List Value) (hx : a.eval x = .slice (some ad) m c) (hl : news.length = m * size)
    (hnews : ∀ j u, news[j]? = some u → w.cell? (ad.add j) = some u) (h1 : ∀ u ∈ news, u.oneCell' = true)
    (h63 : n + m ≤ maxLen) (hbytes : (n + m) * bytes ≤ 140737488355328) (hbase : base ≤ w.heap.size) (r : Nat) (ys : List Value) (hr : n + m = r) (hy : xs ++ news = ys)
    (h : ∀ a' c' w', w'.ownsRow base e size (.slice a' r c') r ys → Below base w w' → (a' = none → r = 0 ∧ c' = 0) → K (a.put o.dst (.slice a' r c')) w') :
    if Region.wanted o (yielded ops a.tmps) = true then Oper.wp P o a w K Q else E := by
  have hw : Region.wanted o (yielded ops a.tmps) = true := by simp [Region.wanted, hgd]
  rw [if_pos hw]
  subst hr hy
  refine wp_append_own w s x t ho base e i z size bytes ht hi hz hsize hby hzs hsz v n xs hs hown ad m c news hx hl hnews h1 h63 hbytes hbase fun v' w' h2 h3 _ => ?_
  have hb' := (Below.refl base w).grown h3 hbase fun k hk => (hown.lt k hk).1
  rcases Joins.ownsRow_forms h2 with ⟨rfl, h0⟩ | ⟨g, cap, rfl⟩
  · have := h none 0 w' (by rw [h0] at h2 ⊢; exact h2) hb' (fun _ => ⟨h0, rfl⟩)
    rw [h0] at this
    exact this
  · exact h _ _ w' h2 hb' (fun h => by cases h)
end Go.Proofs.YtbbholdadgjelaaGreat
/- append in a region that draws: the source may be nil -/
namespace Go.Proofs.YtbbholdadgjelaaGreat
open Go.RowKit
set_option linter.unusedVariables false
set_option maxRecDepth 20000
theorem step_append_opt {P : Program} {w : World} {ops : Array Oper} {o : Oper} {a : Act} {K : Act → World → Prop} {Q : Exit → Act → World → Prop} {E : Prop} (hgd : o.guard = none) (s x : Operand) (t : TypeId)
    (ho : o.op = .call { callee := .builtin .append, args := #[s, x], argTypes := #[t, t] })
    (base : Nat) (e : TypeId) (i : TypeInfo) (z : Value) (size bytes : Nat) (ht : P.underlying t = some (.slice e)) (hi : P.info? e = some i) (hz : i.zero = some z)
    (hsize : i.size = size) (hby : i.bytes = bytes) (hzs : z.cells.size = size) (hsz : 0 < size)
    (v : Value) (n : Nat) (xs : List Value) (hs : a.eval s = v) (hown : w.ownsRow base e size v n xs)
    (ao : Option Addr) (m c : Nat) (news : List Value) (hx : a.eval x = .slice ao m c) (hnone : ao = none → m = 0 ∧ c = 0) (hl : news.length = m * size)
    (hnews : ∀ ad, ao = some ad → ∀ j u, news[j]? = some u → w.cell? (ad.add j) = some u) (h1 : ∀ u ∈ news, u.oneCell' = true)
    (h63 : n + m ≤ maxLen) (hbytes : (n + m) * bytes ≤ 140737488355328) (hbase : base ≤ w.heap.size) (r : Nat) (ys : List Value) (hr : n + m = r) (hy : xs ++ news = ys)
    (h : ∀ a' c' w', w'.ownsRow base e size (.slice a' r c') r ys → Below base w w' → (a' = none → r = 0 ∧ c' = 0) → K (a.put o.dst (.slice a' r c')) w') :
    if Region.wanted o (yielded ops a.tmps) = true then Oper.wp P o a w K Q else E := by
  cases ao with
  | some ad => exact step_append_some hgd s x t ho base e i z size bytes ht hi hz hsize hby hzs hsz v n xs hs hown ad m c news hx hl (hnews ad rfl) h1 h63 hbytes hbase r ys hr hy h
  | none =>
    obtain ⟨rfl, rfl⟩ := hnone rfl
    have hn : news = [] := List.eq_nil_of_length_eq_zero (by simpa using hl)
    subst hn hr hy
    rw [if_pos (by simp [Region.wanted, hgd])]
    have hrun := run_append_owned_none (P := P) (w := w) base t o.type e i size ht hi v n xs hown
    have fin : K (a.put o.dst v) w := by
      rcases Joins.ownsRow_forms hown with ⟨rfl, h0⟩ | ⟨g, cap, rfl⟩
      · have := h none 0 w (by rw [h0] at hown ⊢; simpa using hown) (Below.refl _ _) (fun _ => ⟨h0, rfl⟩)
        rw [h0] at this
        exact this
      · exact h _ _ w (by simpa using hown) (Below.refl _ _) (fun h => by cases h)
    unfold Oper.wp
    simp [execOp, ho, resolve, invoke, builtin, hs, hx, hrun, Result.andThen]
    exact fin
theorem rowCellsB {w : World} {base : Nat} {e : TypeId} {size : Nat} {a : Option Addr} {n c : Nat} {xs : List Value} (h : w.ownsRow base e size (.slice a n c) n xs) : (a = none → n = 0 ∧ c = 0) ∧ ∀ ad, a = some ad → ∀ j u, xs[j]? = some u → w.cell? (ad.add j) = some u := by
  rcases Joins.ownsRow_forms h with ⟨e1, h0⟩ | ⟨g, cap, e1⟩
  · injection e1 with e2 e3 e4
    subst e2
    exact ⟨fun _ => ⟨h0, e4⟩, fun ad h => (by cases h)⟩
  · injection e1 with e2 e3 e4
    subst e2
    refine ⟨fun h => (by cases h), fun ad had j u hu => ?_⟩
    injection had with had
    subst had
    have hj := (List.getElem?_eq_some_iff.1 hu).1
    rw [Go.WideShapes.add_plain, Nat.zero_add, h.cellAt j (by have := h.1; omega), hu]
theorem owns_toB {w : World} {base base' : Nat} {e : TypeId} {size : Nat} {v : Value} {n : Nat} {xs : List Value} (h : w.ownsRow base e size v n xs) (hb : base' ≤ base) : w.ownsRow base' e size v n xs :=
  ⟨h.1, h.2.imp id (fun ⟨g, cap, cur, hv, hge, r⟩ => ⟨g, cap, cur, hv, Nat.le_trans hb hge, r⟩)⟩
theorem addB_block (a : Addr) (n : Nat) : (a.add n).block = a.block := by unfold Addr.add; split <;> rfl
end Go.Proofs.YtbbholdadgjelaaGreat
/- graph: contracts of cut, follow, nameOf -/
namespace Go.Proofs.YtbbholdadgjelaaGreat
open Go.RowKit
set_option linter.unusedVariables false
set_option maxRecDepth 20000
theorem rst_over {s : Tx} (h : s.size ≤ (Utf8.decode s 0).2) : rstS s = ⟨#[]⟩ := empty_size (by
  unfold rstS
  rw [ByteArray.size_extract]; omega)
set_option maxHeartbeats 1600000 in
theorem cut_any (s : Tx) (w : World) (h0 : 0 < s.size) (hs : s.size ≤ 1048576) :
    Calls Tryz.prog 101 #[.string s] w fun e w' => e = .returned (.tuple #[.int .i32 (labS s), .string (rstS s)]) ∧ Below w.heap.size w w' := by
  obtain ⟨wd, hwd⟩ : ∃ wd, (Utf8.decode s 0).2 = wd := ⟨_, rfl⟩
  have h1 : 1 ≤ wd := hwd ▸ decode_width s 0 h0
  have HW := Lib.hid hwd
  clear hwd
  go_enter Tryz.func101, Tryz.ntmps101
  go_wp2_with fail
  go_loopw [4] (fun n wr => ∃ (pos : Nat) (r : Int), n = .int .i32 r ∧ wr = w.iter s pos ∧ Hid ((pos = 0 ∧ r = -1) ∨ (pos = wd ∧ r = (labS s : Int)))) (fun _ wr => s.size - wr.iterPos w.heap.size)
  case atStart => exact ⟨0, -1, rfl, rfl, Lib.hid (Or.inl ⟨rfl, rfl⟩)⟩
  case round =>
    obtain ⟨pos, r, rfl, rfl, hP⟩ := hrel
    rcases hP.out with ⟨h2, h3⟩ | ⟨h2, h3⟩
    · subst h2 h3
      have hnx := fun ty => run_next_any (P := Tryz.prog) w s 0 ty h0
      rw [HW.out] at hnx
      have hl : (Utf8.decode s 0).1 = labS s := rfl
      rw [hl] at hnx
      generalize hlab : labS s = lab at *
      have HLAB := Lib.hid hlab
      clear hl hlab
      go_wp2_with fail
      go_roundw
      case rel => exact ⟨wd, (lab : Int), rfl, rfl, Lib.hid (Or.inr ⟨rfl, rfl⟩)⟩
      case measure => simp; omega
    · subst h3
      obtain rfl : wd = pos := h2.symm
      by_cases hlt : wd < s.size
      · have hnx := fun ty => run_next_any (P := Tryz.prog) w s wd ty hlt
        have hgt : decide ((wd : Int) > 0) = true := decide_eq_true (by omega)
        have hgt2 : decide (0 < wd) = true := decide_eq_true (by omega)
        have e1 : rstS s = s.extract wd s.size := by unfold rstS; rw [HW.out]
        have E1 := Lib.hid e1
        clear e1
        go_wp2_with fail
        go_quiet (fail)
        go_wp2_with fail
        go_ret2
        exact ⟨by rw [E1.out]; rfl, (below_one _ _).trans ((below_drewN _ _).mono (below_one w _).size)⟩
      · have hnx := fun ty => run_next_end (P := Tryz.prog) w s wd ty hlt
        have e1 : rstS s = ⟨#[]⟩ := rst_over (by rw [HW.out]; omega)
        have E1 := Lib.hid e1
        clear e1
        go_wp2_with fail
        go_ret2
        exact ⟨by rw [E1.out]; rfl, below_one _ _⟩
theorem getD_tx {l : List Tx} {j : Nat} (h : j < l.length) : l.getD j ByteArray.empty ∈ l := by
  rw [List.getD_eq_getElem?_getD, List.getElem?_eq_getElem h]; simp
theorem take_tx (l : List Tx) (j : Nat) (h : j < l.length) : l.take (j + 1) = l.take j ++ [l.getD j ByteArray.empty] := by
  rw [List.take_add_one, List.getElem?_eq_getElem h, List.getD_eq_getElem?_getD, List.getElem?_eq_getElem h]; rfl
theorem app_list (a b : ByteArray) : (a ++ b).data.toList = a.data.toList ++ b.data.toList := by simp
set_option maxHeartbeats 1600000 in
theorem nameOf_any (a : Option Addr) (n cap : Nat) (l : List Tx) (w : World) (hh : HoldsT w a n l) (hn : n ≤ 100) (hsz : ∀ t ∈ l, t.size ≤ 100) :
    Calls Tryz.prog 87 #[.slice a n cap] w fun e w' => (∃ s : Tx, e = .returned (.string s) ∧ s.data.toList = nameL l) ∧ w = w' := by
  have hl := hh.len
  have H := Lib.hid hh; have HSZ := Lib.hid hsz
  clear hh hsz
  go_enter Tryz.func87, Tryz.ntmps87
  go_wp2_with fail
  go_loop [3, 5, 8] (fun sv tv iv => ∃ (j : Nat) (s : Tx), j ≤ n ∧ sv = .string s ∧ iv = .int .i64 j ∧ Hid (s.data.toList = nameL (l.take j)) ∧ s.size ≤ j * 101) (fun _ _ iv => n - (intOf iv).toNat)
  case atStart => exact ⟨0, ⟨#[]⟩, by omega, rfl, rfl, Lib.hid rfl, by simp [ByteArray.size]⟩
  case round =>
    obtain ⟨j, s, hj, rfl, rfl, hS, hz⟩ := hrel
    by_cases hlt : j < n
    · obtain ⟨b, o, rfl, hc⟩ := H.out.at (by omega)
      have x0 := hc j hlt
      obtain ⟨t, ht⟩ : ∃ t, l.getD j ByteArray.empty = t := ⟨_, rfl⟩
      rw [ht] at x0
      have htz := HSZ.out t (ht ▸ getD_tx (by omega))
      have i1 : (0 : Int) ≤ (j : Int) := by omega
      have i2 : (j : Int) < (n : Int) := by omega
      have HN := Lib.hid (show (s ++ (t ++ ⟨#[255]⟩)).data.toList = nameL (l.take (j + 1)) from by
        rw [take_tx l j (by omega), nameL_snoc, app_list, app_list, hS.out, ht])
      have z1 : (t ++ (⟨#[255]⟩ : ByteArray)).size = t.size + 1 := by rw [ByteArray.size_append]; rfl
      have z2 : (s ++ (t ++ (⟨#[255]⟩ : ByteArray))).size = s.size + (t.size + 1) := by rw [ByteArray.size_append, z1]
      have HZ := Lib.hid (show (s ++ (t ++ (⟨#[255]⟩ : ByteArray))).size ≤ (j + 1) * 101 from by rw [z2]; omega)
      clear hc ht z1 z2
      go_wp2_with fail
      go_round
      case rel => exact ⟨j + 1, _, by omega, rfl, by go_num, HN, HZ.out⟩
      case measure => simp [intOf] <;> omega
    · obtain rfl : j = n := by omega
      have HE := Lib.hid (show s.data.toList = nameL l from by rw [hS.out, List.take_of_length_le (by omega)])
      go_wp2_with fail
      go_ret
      exact ⟨⟨s, rfl, HE.out⟩, rfl⟩
theorem tw_stop {α : Type} (p : α → Bool) (d : α) : ∀ (l : List α) (j : Nat), j ≤ l.length → (∀ t ∈ l.take j, p t = true) → (j < l.length → p (l.getD j d) = false) → l.takeWhile p = l.take j
  | [], j, hj, _, _ => by simp
  | x :: l, 0, _, _, h => by
    have := h (by simp)
    rw [List.takeWhile_cons, if_neg (by simpa using this)]; simp
  | x :: l, j + 1, hj, ha, h => by
    rw [List.takeWhile_cons, if_pos (ha x (by simp)), List.take_succ_cons]
    rw [tw_stop p d l j (by simpa using hj) (fun t ht => ha t (by simp [ht])) (fun hlt => by simpa using h (by simpa using hlt))]
theorem strG_info : (Tryz.prog.info? 9).map (fun i => (i.zero, i.size, i.bytes)) = some (some (.string ⟨#[]⟩), 1, 16) := by kernel_rfl
def FolP (w : World) (l : List Tx) (e : Ending) (w' : World) : Prop := ∃ a c, e = .returned (.tuple #[.int .i32 (folS l).1, .slice a (folS l).2.length c]) ∧ w'.ownsRow w.heap.size 9 1 (.slice a (folS l).2.length c) (folS l).2.length (strsV (folS l).2) ∧ Below w.heap.size w w'
set_option maxHeartbeats 1600000 in
theorem follow_any (a : Option Addr) (n cap : Nat) (l : List Tx) (w : World) (hh : HoldsT w a n l) (h0 : 0 < n) (hn : n ≤ 100) (hp : ∀ t ∈ l, 0 < t.size) (hsz : ∀ t ∈ l, t.size ≤ 100) :
    Calls Tryz.prog 88 #[.slice a n cap] w (FolP w l) := by
  obtain ⟨i0, hi, hz0, hz1, hz2⟩ := info_parts strG_info
  have hl := hh.len
  obtain ⟨lab, hlab⟩ : ∃ k, labS (l.getD 0 ByteArray.empty) = k := ⟨_, rfl⟩
  have HLAB := Lib.hid hlab
  have TW := Lib.hid (fun (j : Nat) (hj : j ≤ n) (ha : ∀ t ∈ l.take j, labS t = lab) (hs : j < n → labS (l.getD j ByteArray.empty) ≠ lab) => show folS l = (lab, (l.take j).map rstS) from by
    cases l with
    | nil => simp at hl; omega
    | cons s l =>
      have e : labS s = lab := hlab
      show (labS s, ((s :: l).takeWhile (fun t => decide (labS t = labS s))).map rstS) = _
      rw [tw_stop (fun t => decide (labS t = labS s)) ByteArray.empty (s :: l) j (by omega) (fun t ht => decide_eq_true (by rw [ha t ht, e])) (fun hlt => decide_eq_false (by rw [e]; exact hs (by omega))), e])
  have H := Lib.hid hh; have HSZ := Lib.hid hsz; have HP := Lib.hid hp
  obtain ⟨b, o, rfl, hc⟩ := hh.at h0
  have x0 := hc 0 h0
  obtain ⟨s0, hs0⟩ : ∃ t, l.getD 0 ByteArray.empty = t := ⟨_, rfl⟩
  have hm0 : s0 ∈ l := hs0 ▸ getD_tx (by omega)
  rw [hs0] at x0 hlab
  rw [Nat.add_zero] at x0
  have C0 := Lib.hid (cut_any s0 w (hp s0 hm0) (by have := hsz s0 hm0; omega))
  rw [hlab] at C0
  have n0 : (0 : Int) < (n : Int) := by omega
  clear hh hsz hp hc hlab hs0 hm0
  go_enter Tryz.func88, Tryz.ntmps88
  go_wp2_with fail
  refine C0.out.mono ?_
  rintro e w1 ⟨rfl, hb1⟩
  have B1 := Lib.hid hb1
  clear hb1 C0 x0
  go_wp2_with fail
  go_loopw [6, 20] (fun kv iv wr => ∃ (j : Nat) (av : Option Addr) (cv : Nat), j ≤ n ∧ kv = .slice av j cv ∧ iv = .int .i64 j ∧ Hid (∀ t ∈ l.take j, labS t = lab) ∧ Hid (wr.ownsRow w.heap.size 9 1 (.slice av j cv) j (strsV ((l.take j).map rstS))) ∧ Hid (Below w.heap.size w wr)) (fun _ iv _ => n - (intOf iv).toNat)
  case atStart => exact ⟨0, none, 0, by omega, rfl, rfl, Lib.hid (by simp), Lib.hid (by simpa [strsV] using World.ownsRow_nil w1 w.heap.size 9 1), B1⟩
  case round =>
    obtain ⟨j, av, cv, hj, rfl, rfl, hA, hO, hB⟩ := hrel
    have FIN := Lib.hid (fun (hs : j < n → labS (l.getD j ByteArray.empty) ≠ lab) w' (hb : Below w.heap.size w w') (ho : w'.ownsRow w.heap.size 9 1 (.slice av j cv) j (strsV ((l.take j).map rstS))) => show FolP w l (.returned (.tuple #[.int .i32 lab, .slice av j cv])) w' from by
      have e := TW.out j hj hA.out hs
      have el : ((l.take j).map rstS).length = j := by rw [List.length_map, List.length_take]; omega
      refine ⟨av, cv, ?_, ?_, hb⟩
      · rw [e]; simp only [el]
      · rw [e]; simp only [el]; exact ho)
    by_cases hlt : j < n
    · obtain ⟨b', o', hbe, hc⟩ := (H.out.below hB.out).at (by omega)
      injection hbe with hbe; injection hbe with e1 e2; subst e1 e2
      have x0 := hc j hlt
      obtain ⟨t, ht⟩ : ∃ t, l.getD j ByteArray.empty = t := ⟨_, rfl⟩
      rw [ht] at x0
      have htm : t ∈ l := ht ▸ getD_tx (by omega)
      have htz := HSZ.out t htm
      have CT := Lib.hid (fun w' => cut_any t w' (HP.out t htm) (by omega))
      have i1 : (0 : Int) ≤ (j : Int) := by omega
      have i2 : (j : Int) < (n : Int) := by omega
      have HT := Lib.hid ht
      have TK := Lib.hid (take_tx l j (by omega))
      clear hc htm ht
      go_wp2_with fail
      refine (CT.out _).mono ?_
      rintro e w2 ⟨rfl, hb2⟩
      have B2 := Lib.hid (hB.out.trans (hb2.mono hB.out.size))
      have O2 := Lib.hid (owns_below hO.out hb2)
      clear hb2 CT x0
      by_cases hq : labS t = lab
      · have q1 : ((labS t : Int) != (lab : Int)) = false := by rw [hq]; simp
        have HQ := Lib.hid hq
        clear hq
        go_wp2_with (at_builtin; refine wpList_append_any rfl (.tmp 32) (.tmp 34) 22 rfl w.heap.size 9 i0 _ 1 16 Tryz.underlying22 hi hz0 hz1 hz2 rfl (by decide) _ j _ rfl (O2.out.alloc _) _ 1 1 [.string (rstS t)] rfl (some_none _) rfl (one_new _ _ _ _) (one_str _) (by unfold maxLen; omega) (by omega) (by have := B2.out.size; simp; omega) ?_; intro a5 c5 w5 hown5 hb5 hnil5)
        have A5 := Lib.hid (show ∀ u ∈ l.take (j + 1), labS u = lab from fun u hu => by
          rw [TK.out, HT.out] at hu
          rcases List.mem_append.1 hu with hu | hu
          · exact hA.out u hu
          · simp only [List.mem_singleton] at hu; rw [hu]; exact HQ.out)
        have O5 := Lib.hid (show w5.ownsRow w.heap.size 9 1 (.slice a5 (j + 1) c5) (j + 1) (strsV ((l.take (j + 1)).map rstS)) from by
          rw [TK.out, HT.out, List.map_append]
          show w5.ownsRow _ _ _ _ _ (strsV ((l.take j).map rstS ++ [rstS t]))
          rw [strsV_snoc]; exact hown5)
        have B5 := Lib.hid (B2.out.trans (((Below.refl w.heap.size w2).alloc B2.out.size _).trans hb5))
        clear hown5 hb5 hnil5
        go_roundw
        case rel => exact ⟨j + 1, a5, c5, by omega, rfl, by go_num, A5, O5, B5⟩
        case measure => simp [intOf] <;> omega
      · have q1 : ((labS t : Int) != (lab : Int)) = true := by rw [bne_iff_ne]; omega
        have HQ := Lib.hid hq
        clear hq
        go_wp2_with fail
        go_ret2
        exact FIN.out (fun _ => by rw [HT.out]; exact HQ.out) _ B2.out O2.out
    · go_wp2_with fail
      go_ret2
      exact FIN.out (fun h => absurd h hlt) _ hB.out hO.out
end Go.Proofs.YtbbholdadgjelaaGreat
/- a map from texts to ints in memory, as a function -/
namespace Go.Proofs.YtbbholdadgjelaaGreat
open Go.RowKit Go.Maps Go.WideMaps
set_option linter.unusedVariables false
set_option maxRecDepth 20000
theorem lawMs : Keyed Tryz.prog 9 := string_keyed Tryz.underlying9
theorem zeroMs (w : World) : (zeroValue 3).run Tryz.prog w = .ok (.int .i64 0) w := by kernel_rfl
/-- f with v at k -/
def sset (f : List UInt8 → Option Int) (k : List UInt8) (v : Option Int) : List UInt8 → Option Int := fun j => if j = k then v else f j
theorem sset_at (f : List UInt8 → Option Int) (k : List UInt8) (v : Option Int) : sset f k v k = v := by simp [sset]
theorem sset_ne (f : List UInt8 → Option Int) (k j : List UInt8) (v : Option Int) (h : j ≠ k) : sset f k v j = f j := by simp [sset, h]
theorem tight_maps {P : Program} {k : TypeId} {R : Value → Option (DataW Unit × List MemPlace)} {w : World} {b n : Nat} {D : DataW Unit} (h : w.ownsMap P k R b n D) : w.ownsMap P k R b (Maps.size D) D := by
  obtain ⟨es, clock, hb, F, hs, rfl⟩ := h
  exact ⟨es, clock, hb, F, by simp [Maps.size, length_sorted], rfl⟩
/-- block b is a map of n entries: what f says -/
def MapS (w : World) (b n : Nat) (f : List UInt8 → Option Int) : Prop :=
  ∃ D : DataW Unit, w.ownsMap Tryz.prog 9 (plainElem Tryz.prog 3) b n D ∧ Maps.size D = n ∧
    ∀ z, Maps.has D (.string z) = (f z).isSome ∧ ∀ v, f z = some v → D.atKey (.string z) (.lit (.int .i64 0)) = .lit (.int .i64 v)
theorem MapS.lt {w : World} {b n : Nat} {f : List UInt8 → Option Int} (h : MapS w b n f) : b < w.heap.size := by obtain ⟨D, h, _⟩ := h; exact h.lt
theorem MapS.block {w w' : World} {b n : Nat} {f : List UInt8 → Option Int} (h : MapS w b n f) (hb : w'.heap[b]? = w.heap[b]?) : MapS w' b n f := by
  obtain ⟨D, ⟨es, clock, h1, h2⟩, h3⟩ := h
  exact ⟨D, ⟨es, clock, hb.trans h1, h2⟩, h3⟩
theorem MapS.turn {w w' : World} {b n : Nat} {f : List UInt8 → Option Int} {F : Nat → Prop} (h : MapS w b n f) (t : Turn F w w') (hF : ¬ F b) : MapS w' b n f := h.block (t.block b h.lt hF)
theorem MapS.below {w w' : World} {b n : Nat} {f : List UInt8 → Option Int} (h : MapS w b n f) (t : Below w.heap.size w w') : MapS w' b n f := h.block (t.block b h.lt)
theorem MapS.setCell {w : World} {b n p o : Nat} {v : Value} {f : List UInt8 → Option Int} (h : MapS w b n f) (hp : b ≠ p) : MapS (w.setCell ⟨p, o, none⟩ v) b n f := h.block (Below.heap_setCell _ _ _ _ hp)
theorem MapS.ext {w : World} {b n : Nat} {f g : List UInt8 → Option Int} (h : MapS w b n f) (e : ∀ z, f z = g z) : MapS w b n g := (funext e : f = g) ▸ h
theorem MapS.no_cell {w : World} {b n : Nat} {f : List UInt8 → Option Int} (h : MapS w b n f) (o : Nat) (v : Value) : w.cell? ⟨b, o, none⟩ ≠ some v := by
  obtain ⟨D, ⟨es, clock, h1, h2⟩, h3⟩ := h
  simp [World.cell?, h1]
theorem mapS_made (w : World) : MapS (w.alloc (.map #[] 0)) w.heap.size 0 (fun _ => none) :=
  ⟨.map [], World.ownsMap_made w _ _ _, rfl, fun z => ⟨rfl, fun v h => by cases h⟩⟩
theorem Turn.of_mapTurnedS {F : Nat → Prop} {w w' : World} {b : Nat} (h : w.mapTurned w' b) (hb : F b) : Turn F w w' := by
  have g := h.grown
  exact ⟨g.os, g.tape, g.output, g.size, fun k hk hn => g.block k hk (fun e => hn (by cases e; exact hb))⟩
theorem MapS.put_run {w : World} {b n : Nat} {f : List UInt8 → Option Int} (H : MapS w b n f) (hn : n < maxLen) (key : ByteArray) (val : Int) (hk : key.size ≤ maxLen) (hwv : (Lit.int .i64 val).wf = true) :
    ∃ w', (Instr.mapUpdate 108 (.map (some b)) (.string key) (.int .i64 val)).run Tryz.prog w = .ok () w' ∧ MapS w' b (if (f key.data.toList).isSome then n else n + 1) (sset f key.data.toList (some val)) ∧ w.mapTurned w' b := by
  obtain ⟨D, hown, hs, hf⟩ := H
  have hkey := keyOf_string_mk Tryz.underlying9 hk
  obtain ⟨w', hrun, r1, r2⟩ := hown.store lawMs Tryz.underlying108 hn hkey (plainElem_int (H := Unit) Tryz.underlying3 hwv)
  have hD := hown.isMap
  have hsz := Maps.size_put (k := .string key.data.toList) (hown.tidy lawMs) (.lit (.int .i64 val))
  rw [(hf key.data.toList).1, hs] at hsz
  refine ⟨w', hrun, ⟨_, hsz ▸ tight_maps r1, hsz, fun z => ?_⟩, r2⟩
  by_cases e : z = key.data.toList
  · subst e
    rw [sset_at]
    exact ⟨Maps.has_put_same (k := .string key.data.toList) hD trivial _, fun v h => by injection h with h; subst h; exact Maps.atKey_put_same (k := .string key.data.toList) hD trivial _ _⟩
  · have hne : (Lit.string z) ≠ .string key.data.toList := fun h => e (by injection h)
    rw [sset_ne _ _ _ _ e]
    exact ⟨by rw [Maps.has_put_other hne]; exact (hf z).1, fun v h => by rw [Maps.atKey_put_other hne]; exact (hf z).2 v h⟩
section
variable {o : Oper} {a : Act} {w : World} {K : Act → World → Prop} {Q : Exit → Act → World → Prop} {ops : Array Oper} {rest : List Oper}
theorem wp_look_ms (m x : Operand) (hop : o.op = Op.lookup 108 m x true) {b n : Nat} {f : List UInt8 → Option Int} (hm : a.eval m = .map (some b)) (H : MapS w b n f) (key : ByteArray) (hx : a.eval x = .string key) (hk : key.size ≤ maxLen)
    (hK : K (a.put o.dst (.tuple #[.int .i64 ((f key.data.toList).getD 0), .bool (f key.data.toList).isSome])) w) : o.wp Tryz.prog a w K Q := by
  obtain ⟨D, hown, hs, hf⟩ := H
  obtain ⟨v, ps, hrun, hv⟩ := hown.look_ok lawMs Tryz.underlying108 (zeroMs w) (plainElem_int (H := Unit) Tryz.underlying3 (by decide)) (keyOf_string_mk Tryz.underlying9 hk)
  obtain ⟨c, rfl, hc, hwc⟩ := plainElem_int_inv Tryz.underlying3 hv
  have hc := congrArg Prod.fst hc
  simp only at hc
  have e : c = (f key.data.toList).getD 0 := by
    cases hfk : f key.data.toList with
    | none =>
      have h1 := (hf key.data.toList).1
      rw [hfk] at h1
      rw [Maps.atKey_of_not_has (by simpa using h1)] at hc
      injection hc with h; injection h with _ h; simp [← h]
    | some u =>
      rw [(hf key.data.toList).2 u hfk] at hc
      injection hc with h; injection h with _ h; simp [← h]
  rw [(hf key.data.toList).1, e] at hrun
  unfold Oper.wp
  simp [execOp, hop, hm, hx, hrun, Result.andThen]
  exact hK
theorem wp_put_ms (m x v : Operand) (hop : o.op = Op.mapUpdate 108 m x v) {b n : Nat} {f : List UInt8 → Option Int} (hm : a.eval m = .map (some b)) (H : MapS w b n f) (hn : n < maxLen) (key : ByteArray) (val : Int) (hx : a.eval x = .string key) (hv : a.eval v = .int .i64 val) (hk : key.size ≤ maxLen) (hwv : (Lit.int .i64 val).wf = true)
    (hK : ∀ w', MapS w' b (if (f key.data.toList).isSome then n else n + 1) (sset f key.data.toList (some val)) → w.mapTurned w' b → K (a.put o.dst undef) w') : o.wp Tryz.prog a w K Q := by
  obtain ⟨w', hrun, r1, r2⟩ := H.put_run hn key val hk hwv
  unfold Oper.wp
  simp [execOp, hop, hm, hx, hv, hrun, Result.andThen]
  exact hK w' r1 r2
theorem wp_len_ms (m : Operand) (hop : o.op = Op.call { callee := Callee.builtin Builtin.len, args := #[m], argTypes := #[108] }) {b n : Nat} {f : List UInt8 → Option Int} (hm : a.eval m = .map (some b)) (H : MapS w b n f)
    (hK : K (a.put o.dst (.int .i64 n)) w) : o.wp Tryz.prog a w K Q := by
  obtain ⟨D, hown, hs, hf⟩ := H
  have hrun := hown.len Tryz.underlying108 o.type
  rw [hs] at hrun
  unfold Oper.wp
  simp [execOp, hop, resolve, invoke, builtin, hm, hrun, Result.andThen]
  exact hK
theorem wpList_look_ms (hg : o.guard = none) (m x : Operand) (hop : o.op = Op.lookup 108 m x true) {b n : Nat} {f : List UInt8 → Option Int} (hm : a.eval m = .map (some b)) (H : MapS w b n f) (key : ByteArray) (hx : a.eval x = .string key) (hk : key.size ≤ maxLen)
    (hK : wpList Tryz.prog ops Q rest (a.put o.dst (.tuple #[.int .i64 ((f key.data.toList).getD 0), .bool (f key.data.toList).isSome])) w) : wpList Tryz.prog ops Q (o :: rest) a w :=
  wpList_plain hg fun _ hK' => wp_look_ms m x hop hm H key hx hk (hK' _ _ hK)
theorem wpList_put_ms (hg : o.guard = none) (m x v : Operand) (hop : o.op = Op.mapUpdate 108 m x v) {b n : Nat} {f : List UInt8 → Option Int} (hm : a.eval m = .map (some b)) (H : MapS w b n f) (hn : n < maxLen) (key : ByteArray) (val : Int) (hx : a.eval x = .string key) (hv : a.eval v = .int .i64 val) (hk : key.size ≤ maxLen) (hwv : (Lit.int .i64 val).wf = true)
    (hK : ∀ w', MapS w' b (if (f key.data.toList).isSome then n else n + 1) (sset f key.data.toList (some val)) → w.mapTurned w' b → wpList Tryz.prog ops Q rest (a.put o.dst undef) w') : wpList Tryz.prog ops Q (o :: rest) a w :=
  wpList_plain hg fun _ hK' => wp_put_ms m x v hop hm H hn key val hx hv hk hwv fun w' h1 h2 => hK' _ _ (hK w' h1 h2)
theorem wpList_len_ms (hg : o.guard = none) (m : Operand) (hop : o.op = Op.call { callee := Callee.builtin Builtin.len, args := #[m], argTypes := #[108] }) {b n : Nat} {f : List UInt8 → Option Int} (hm : a.eval m = .map (some b)) (H : MapS w b n f)
    (hK : wpList Tryz.prog ops Q rest (a.put o.dst (.int .i64 n)) w) : wpList Tryz.prog ops Q (o :: rest) a w :=
  wpList_plain hg fun _ hK' => wp_len_ms m hop hm H (hK' _ _ hK)
end
end Go.Proofs.YtbbholdadgjelaaGreat
/- two objects of a call's own, in blocks apart -/
namespace Go.Proofs.YtbbholdadgjelaaGreat
open Go.RowKit
set_option linter.unusedVariables false
set_option maxRecDepth 20000
/-- an object in its blocks -/
structure ObjOk (Q : World → (Nat → Prop) → Prop) : Prop where
  turn : ∀ {w w' : World} {S F : Nat → Prop}, Q w S → Turn F w w' → (∀ k, S k → ¬ F k) → Q w' S
  lt : ∀ {w : World} {S : Nat → Prop}, Q w S → ∀ k, S k → k < w.heap.size
def PO (Q : World → (Nat → Prop) → Prop) (w : World) (S : Nat → Prop) (w' : World) : Prop := ∃ S', Q w' S' ∧ (∀ k, S' k → S k ∨ w.heap.size ≤ k) ∧ Turn S w w'
theorem PO.turn {Q : World → (Nat → Prop) → Prop} {w w' : World} {S : Nat → Prop} (h : PO Q w S w') : Turn S w w' := by obtain ⟨_, _, _, h⟩ := h; exact h
theorem ObjOk.below {Q : World → (Nat → Prop) → Prop} (o : ObjOk Q) {w w' : World} {S : Nat → Prop} (h : Q w S) (hb : Below w.heap.size w w') : Q w' S :=
  o.turn h (F := fun k => w.heap.size ≤ k) (Turn.of_below hb) (fun k hk hn => by have := o.lt h k hk; omega)
theorem PO.more {Q : World → (Nat → Prop) → Prop} (o : ObjOk Q) {w w' w'' : World} {S : Nat → Prop} (h : PO Q w S w') (hb : Below w'.heap.size w' w'') : PO Q w S w'' := by
  obtain ⟨T, q, s, t⟩ := h
  exact ⟨T, o.below q hb, s, t.trans (Turn.of_below hb)⟩
structure TwoO (Q R : World → (Nat → Prop) → Prop) (w0 w : World) (S1 S2 : Nat → Prop) : Prop where
  q : Q w S1
  r : R w S2
  d : ∀ k, S1 k → ¬ S2 k
  l1 : ∀ k, S1 k → w0.heap.size ≤ k
  l2 : ∀ k, S2 k → w0.heap.size ≤ k
  b : Below w0.heap.size w0 w
def TwoOE (Q R : World → (Nat → Prop) → Prop) (w0 w : World) : Prop := ∃ S1 S2, TwoO Q R w0 w S1 S2
theorem TwoO.more {Q R : World → (Nat → Prop) → Prop} (oq : ObjOk Q) (or : ObjOk R) {w0 w w' : World} {S1 S2 : Nat → Prop} (c : TwoO Q R w0 w S1 S2) (hb : Below w.heap.size w w') : TwoO Q R w0 w' S1 S2 :=
  ⟨oq.below c.q hb, or.below c.r hb, c.d, c.l1, c.l2, c.b.trans (hb.mono c.b.size)⟩
theorem TwoO.left {Q Q' R : World → (Nat → Prop) → Prop} (oq : ObjOk Q') (or : ObjOk R) {w0 w w' : World} {S1 S2 : Nat → Prop} (c : TwoO Q R w0 w S1 S2) (h : PO Q' w S1 w') : ∃ T, TwoO Q' R w0 w' T S2 ∧ (∀ k, T k → S1 k ∨ w.heap.size ≤ k) := by
  obtain ⟨T, q, s, t⟩ := h
  have hz := c.b.size
  refine ⟨T, ⟨q, or.turn c.r t (fun k h2 h1 => c.d k h1 h2), fun k h1 h2 => ?_, fun k hk => ?_, c.l2, c.b.trans (t.below c.l1 hz)⟩, s⟩
  · rcases s k h1 with x | x
    · exact c.d k x h2
    · have := or.lt c.r k h2; omega
  · rcases s k hk with x | x
    · exact c.l1 k x
    · omega
theorem TwoO.left1 {Q Q' R : World → (Nat → Prop) → Prop} (or : ObjOk R) {w0 w w' : World} {S1 S2 T : Nat → Prop} (c : TwoO Q R w0 w S1 S2) (q : Q' w' T) (s : ∀ k, T k → S1 k ∨ w.heap.size ≤ k) (t : Turn S1 w w') : TwoO Q' R w0 w' T S2 := by
  have hz := c.b.size
  refine ⟨q, or.turn c.r t (fun k h2 h1 => c.d k h1 h2), fun k h1 h2 => ?_, fun k hk => ?_, c.l2, c.b.trans (t.below c.l1 hz)⟩
  · rcases s k h1 with x | x
    · exact c.d k x h2
    · have := or.lt c.r k h2; omega
  · rcases s k hk with x | x
    · exact c.l1 k x
    · omega
theorem TwoO.swap {Q R : World → (Nat → Prop) → Prop} {w0 w : World} {S1 S2 : Nat → Prop} (c : TwoO Q R w0 w S1 S2) : TwoO R Q w0 w S2 S1 := ⟨c.r, c.q, fun k h1 h2 => c.d k h2 h1, c.l2, c.l1, c.b⟩
theorem TwoO.right {Q R R' : World → (Nat → Prop) → Prop} (oq : ObjOk Q) (or : ObjOk R') {w0 w w' : World} {S1 S2 : Nat → Prop} (c : TwoO Q R w0 w S1 S2) (h : PO R' w S2 w') : ∃ T, TwoO Q R' w0 w' S1 T ∧ (∀ k, T k → S2 k ∨ w.heap.size ≤ k) := by
  obtain ⟨T, h1, h2⟩ := c.swap.left or oq h
  exact ⟨T, h1.swap, h2⟩
theorem TwoO.right1 {Q R R' : World → (Nat → Prop) → Prop} (oq : ObjOk Q) {w0 w w' : World} {S1 S2 T : Nat → Prop} (c : TwoO Q R w0 w S1 S2) (q : R' w' T) (s : ∀ k, T k → S2 k ∨ w.heap.size ≤ k) (t : Turn S2 w w') : TwoO Q R' w0 w' S1 T := (c.swap.left1 oq q s t).swap
theorem TwoO.q2 {Q Q' R R' : World → (Nat → Prop) → Prop} (oq : ObjOk Q) {w0 w w' : World} {S1 S2 : Nat → Prop} (c : TwoO Q R w0 w S1 S2) (h : PO R' w S2 w') : Q w' S1 := oq.turn c.q h.turn c.d
theorem TwoO.r2 {Q Q' R : World → (Nat → Prop) → Prop} (or : ObjOk R) {w0 w w' : World} {S1 S2 : Nat → Prop} (c : TwoO Q R w0 w S1 S2) (h : PO Q' w S1 w') : R w' S2 := or.turn c.r h.turn (fun k h2 h1 => c.d k h1 h2)
theorem TwoO.qr {Q Q' R R' : World → (Nat → Prop) → Prop} (oq : ObjOk Q') (or : ObjOk R) (or' : ObjOk R') {w0 w w1 w2 : World} {S1 S2 : Nat → Prop} (c : TwoO Q R w0 w S1 S2) (h : PO Q' w S1 w1) (k : PO R' w1 S2 w2) : TwoOE Q' R' w0 w2 := by
  obtain ⟨T, c1, _⟩ := c.left oq or h
  obtain ⟨T2, c2, _⟩ := c1.right oq or' k
  exact ⟨T, T2, c2⟩
theorem TwoO.rq {Q Q' R R' : World → (Nat → Prop) → Prop} (oq : ObjOk Q) (oq' : ObjOk Q') (or' : ObjOk R') {w0 w w1 w2 : World} {S1 S2 : Nat → Prop} (c : TwoO Q R w0 w S1 S2) (h : PO R' w S2 w1) (k : PO Q' w1 S1 w2) : TwoOE Q' R' w0 w2 := by
  obtain ⟨T, c1, _⟩ := c.right oq or' h
  obtain ⟨T2, c2, _⟩ := c1.left oq' or' k
  exact ⟨T2, T, c2⟩
theorem cellT {S : Nat → Prop} {w w' : World} {p o : Nat} {v : Value} (h : w.cell? ⟨p, o, none⟩ = some v) (t : Turn S w w') (hn : ¬ S p) : w'.cell? ⟨p, o, none⟩ = some v := (t.cell (lt_of_cell h) hn).trans h
theorem turn_grown {w w' : World} {r : Option Nat} (h : w.grownBy w' r) : Turn (fun k => some k = r) w w' := ⟨h.os, h.tape, h.output, h.size, fun k hk hn => h.block k hk hn⟩
end Go.Proofs.YtbbholdadgjelaaGreat
/- graph: nodes in memory; the builder -/
namespace Go.Proofs.YtbbholdadgjelaaGreat
open Go.RowKit
set_option linter.unusedVariables false
set_option maxRecDepth 20000
/-- a node, and where its edges lie -/
structure NM where
  fin : Bool
  ea : Option Addr
  ec : Nat
  es : List EdP
def nm0 : NM := ⟨false, none, 0, []⟩
def nmV : List NM → List Value
  | [] => []
  | x :: l => .bool x.fin :: .slice x.ea x.es.length x.ec :: nmV l
theorem nmV_len : ∀ l : List NM, (nmV l).length = l.length * 2
  | [] => rfl
  | x :: l => by simp [nmV, nmV_len l]; omega
theorem nmV_app : ∀ k l : List NM, nmV (k ++ l) = nmV k ++ nmV l
  | [], l => rfl
  | x :: k, l => by simp [nmV, nmV_app k l]
theorem nmV_one : ∀ (l : List NM), ∀ u ∈ nmV l, u.oneCell' = true
  | [], u, h => by simp [nmV] at h
  | x :: l, u, h => by
    simp only [nmV, List.mem_cons] at h
    rcases h with h | h | h
    · subst h; rfl
    · subst h; rfl
    · exact nmV_one l u h
theorem nmV_at : ∀ (l : List NM) (i : Nat), i < l.length → (nmV l)[i * 2]? = some (.bool (l.getD i nm0).fin) ∧ (nmV l)[i * 2 + 1]? = some (.slice (l.getD i nm0).ea (l.getD i nm0).es.length (l.getD i nm0).ec)
  | [], i, h => by simp at h
  | x :: l, 0, _ => by simp [nmV]
  | x :: l, i + 1, h => by
    have ih := nmV_at l i (by simpa using h)
    have e1 : (i + 1) * 2 = i * 2 + 1 + 1 := by omega
    rw [e1]
    simpa [nmV] using ih
theorem nmV_set : ∀ (L : List NM) (i : Nat) (y : NM), i < L.length → ((nmV L).set (i * 2) (.bool y.fin)).set (i * 2 + 1) (.slice y.ea y.es.length y.ec) = nmV (L.set i y)
  | [], i, _, h => by simp at h
  | x :: l, 0, y, _ => by simp [nmV]
  | x :: l, i + 1, y, h => by
    have ih := nmV_set l i y (by simpa using h)
    have e0 : (i + 1) * 2 = i * 2 + 1 + 1 := by omega
    have e1 : (i + 1) * 2 + 1 = i * 2 + 1 + 1 + 1 := by omega
    rw [e1, e0]
    simp only [nmV, List.set_cons_succ]
    rw [ih]
theorem mem_nm {L : List NM} {i : Nat} (h : i < L.length) : L.getD i nm0 ∈ L := by rw [List.getD_eq_getElem?_getD, List.getElem?_eq_getElem h]; simp
theorem gowns_block {w w' : World} {base : Nat} {e : TypeId} {size : Nat} {a : Option Addr} {n c : Nat} {xs : List Value} (h : w.ownsRow base e size (.slice a n c) n xs) (hb : ∀ g, a = some ⟨g, 0, none⟩ → w'.heap[g]? = w.heap[g]?) : w'.ownsRow base e size (.slice a n c) n xs := by
  refine ⟨h.1, ?_⟩
  rcases h.2 with h1 | ⟨g, cap, cur, hv, hge, hh, r⟩
  · exact Or.inl h1
  · have hv' := hv
    simp only [Value.slice.injEq] at hv'
    exact Or.inr ⟨g, cap, cur, hv, hge, (hb g hv'.1).trans hh, r⟩
theorem gown_at {a : Option Addr} {n c k : Nat} {w : World} {xs : List Value} {e : TypeId} {base size : Nat} (h : w.ownsRow base e size (.slice a n c) n xs) (hk : some k = (Value.slice a n c).ownBlock) : a = some ⟨k, 0, none⟩ := by
  rcases Joins.ownsRow_forms h with ⟨e1, _⟩ | ⟨g, cap, e1⟩
  · injection e1 with e2; subst e2; cases hk
  · injection e1 with e2; subst e2; injection hk with hk; rw [hk]
theorem gheap_far {w : World} {b o k : Nat} {v : Value} (h : k ≠ b) : (w.setCell ⟨b, o, none⟩ v).heap[k]? = w.heap[k]? := Below.heap_setCell _ _ _ _ h
theorem holdsEd_blocks {w w' : World} {a : Option Addr} {n : Nat} {ks : List EdP} (h : HoldsEd w a n ks) (hb : ∀ b o, a = some ⟨b, o, none⟩ → w'.heap[b]? = w.heap[b]?) : HoldsEd w' a n ks := by
  refine ⟨h.1, fun h0 => ?_⟩
  obtain ⟨b, o, ha, hc⟩ := h.2 h0
  refine ⟨b, o, ha, fun i hi => ?_⟩
  exact ⟨(World.cell?_of_block (w := w) (hb b o ha)).trans (hc i hi).1, (World.cell?_of_block (w := w) (hb b o ha)).trans (hc i hi).2⟩
/-- a node's edges lie in a block of the object's -/
def EdIn (w : World) (S : Nat → Prop) (g : Nat) (na : Option Addr) (x : NM) : Prop := HoldsEd w x.ea x.es.length x.es ∧ (x.ea = none → x.es.length = 0 ∧ x.ec = 0) ∧ x.es.length ≤ x.ec ∧ ∀ fb fo, x.ea = some ⟨fb, fo, none⟩ → S fb ∧ fb ≠ g ∧ na ≠ some ⟨fb, 0, none⟩
/-- block g is a graph of these nodes -/
structure GMid (w : World) (g : Nat) (na : Option Addr) (nc : Nat) (NL : List NM) (S : Nat → Prop) : Prop where
  c : w.cell? ⟨g, 0, none⟩ = some (.slice na NL.length nc)
  f : ∀ i, w.frozen? ⟨g, i, none⟩ = false
  o : w.ownsRow 0 132 2 (.slice na NL.length nc) NL.length (nmV NL)
  e : ∀ x ∈ NL, EdIn w S g na x
  sg : S g
  sn : ∀ q, na = some ⟨q, 0, none⟩ → S q ∧ q ≠ g
  lt : ∀ k, S k → k < w.heap.size
theorem GMid.blocks {w w' : World} {g : Nat} {na : Option Addr} {nc : Nat} {NL : List NM} {S : Nat → Prop} (h : GMid w g na nc NL S) (hs : w.heap.size ≤ w'.heap.size) (hb : ∀ k, S k → w'.heap[k]? = w.heap[k]?) : GMid w' g na nc NL S := by
  have eb := hb g h.sg
  exact ⟨(World.cell?_of_block (w := w) eb).trans h.c, fun i => (World.frozen?_of_block (w := w) eb).trans (h.f i), gowns_block h.o (fun q hq => hb q (h.sn q hq).1), fun x hx => ⟨holdsEd_blocks (h.e x hx).1 (fun fb fo e => hb fb ((h.e x hx).2.2.2 fb fo e).1), (h.e x hx).2⟩, h.sg, h.sn, fun k hk => Nat.lt_of_lt_of_le (h.lt k hk) hs⟩
/-- the blocks but some that lie in S and are none of the nodes' -/
theorem GMid.but {w w' : World} {g : Nat} {na : Option Addr} {nc : Nat} {NL : List NM} {S : Nat → Prop} {m : Nat} (h : GMid w g na nc NL S) (t : Turn (fun k => k = m) w w') (h1 : g ≠ m) (h2 : ∀ q, na = some ⟨q, 0, none⟩ → q ≠ m) (h3 : ∀ x ∈ NL, ∀ fb fo, x.ea = some ⟨fb, fo, none⟩ → fb ≠ m) : GMid w' g na nc NL S := by
  have eb := t.block g (h.lt g h.sg) h1
  exact ⟨(World.cell?_of_block (w := w) eb).trans h.c, fun i => (World.frozen?_of_block (w := w) eb).trans (h.f i), gowns_block h.o (fun q hq => t.block q (h.lt q (h.sn q hq).1) (h2 q hq)), fun x hx => ⟨holdsEd_blocks (h.e x hx).1 (fun fb fo e => t.block fb (h.lt fb ((h.e x hx).2.2.2 fb fo e).1) (h3 x hx fb fo e)), (h.e x hx).2⟩, h.sg, h.sn, fun k hk => Nat.lt_of_lt_of_le (h.lt k hk) t.size⟩
theorem GMid.at {w : World} {g : Nat} {na : Option Addr} {nc : Nat} {NL : List NM} {S : Nat → Prop} (h : GMid w g na nc NL S) {i : Nat} (hi : i < NL.length) : ∃ q, na = some ⟨q, 0, none⟩ ∧ w.cell? ⟨q, i * 2, none⟩ = some (.bool (NL.getD i nm0).fin) ∧ w.cell? ⟨q, i * 2 + 1, none⟩ = some (.slice (NL.getD i nm0).ea (NL.getD i nm0).es.length (NL.getD i nm0).ec) := by
  have o := h.o
  obtain ⟨q, cap', hv⟩ := Joins.ownsRow_form o (by omega)
  simp only [Value.slice.injEq] at hv
  obtain ⟨hv, -, -⟩ := hv
  subst hv
  obtain ⟨v0, v1⟩ := nmV_at NL i hi
  exact ⟨q, rfl, (o.cellAt (i * 2) (by omega)).trans v0, (o.cellAt (i * 2 + 1) (by omega)).trans v1⟩
/-- one node more -/
theorem GMid.grow {w w6 : World} {g q cap : Nat} {na : Option Addr} {nc : Nat} {NL : List NM} {S : Nat → Prop} {o : Obj} (h : GMid w g na nc NL S)
    (own : w6.ownsRow 0 132 2 (.slice (some ⟨q, 0, none⟩) (NL.length + 1) cap) (NL.length + 1) (nmV NL ++ [.bool false, .slice none 0 0]))
    (hg : (w.alloc o).grownBy w6 (Value.slice na NL.length nc).ownBlock) (hat : (Value.slice na NL.length nc).ownBlock = some q ∨ q = (w.alloc o).heap.size) (hlt : q < w6.heap.size) :
    GMid (w6.setCell ⟨g, 0, none⟩ (.slice (some ⟨q, 0, none⟩) (NL.length + 1) cap)) g (some ⟨q, 0, none⟩) cap (NL ++ [nm0]) (fun k => S k ∨ k = q) ∧ Turn (fun k => k = g ∨ na = some ⟨k, 0, none⟩) w (w6.setCell ⟨g, 0, none⟩ (.slice (some ⟨q, 0, none⟩) (NL.length + 1) cap)) ∧ (na = some ⟨q, 0, none⟩ ∨ w.heap.size ≤ q) := by
  have hza : (w.alloc o).heap.size = w.heap.size + 1 := by simp
  have hz6 := hg.size
  have hlb := h.lt g h.sg
  have old : ∀ k, k < w.heap.size → (∀ r, na = some ⟨r, 0, none⟩ → k ≠ r) → w6.heap[k]? = w.heap[k]? := fun k hk hn =>
    (hg.block k (by omega) (fun e => hn k (gown_at h.o e) rfl)).trans (Below.heap_alloc _ _ _ (by omega))
  have ob := old g hlb (fun r e hq => (h.sn r e).2 hq.symm)
  have gq : q ≠ g := by
    rcases hat with e | e
    · exact (h.sn q (gown_at h.o e.symm)).2
    · omega
  have sz : (w6.setCell ⟨g, 0, none⟩ (.slice (some ⟨q, 0, none⟩) (NL.length + 1) cap)).heap.size = w6.heap.size := by simp [World.setCell]
  have hlen : (NL ++ [nm0]).length = NL.length + 1 := by simp
  have hkv : nmV (NL ++ [nm0]) = nmV NL ++ [.bool false, .slice none 0 0] := by rw [nmV_app]; rfl
  have hwhere : na = some ⟨q, 0, none⟩ ∨ w.heap.size ≤ q := by
    rcases hat with e | e
    · exact Or.inl (gown_at h.o e.symm)
    · exact Or.inr (by omega)
  refine ⟨⟨?_, fun i => ?_, ?_, fun x hx => ?_, Or.inl h.sg, fun r hr => ?_, fun k hk => ?_⟩, ?_, hwhere⟩
  · rw [hlen]; exact cset_at ((World.cell?_of_block (w := w) ob).trans h.c)
  · rw [fset_any, World.frozen?_of_block (w := w) ob]; exact h.f i
  · rw [hlen, hkv]
    exact gowns_block own (fun r hr => by injection hr with hr; injection hr with hr; subst hr; exact gheap_far gq)
  · rcases List.mem_append.1 hx with hx | hx
    · obtain ⟨y1, y2, y3, y4⟩ := h.e x hx
      refine ⟨holdsEd_blocks y1 (fun fb fo e => ?_), y2, y3, fun fb fo e => ⟨Or.inl (y4 fb fo e).1, (y4 fb fo e).2.1, fun e2 => ?_⟩⟩
      · rw [gheap_far (y4 fb fo e).2.1]
        exact old fb (h.lt fb (y4 fb fo e).1) (fun r hr e2 => (y4 fb fo e).2.2 (by rw [hr, e2]))
      · injection e2 with e2; injection e2 with e2
        rcases hat with e3 | e3
        · exact (y4 fb fo e).2.2 (by rw [← e2]; exact gown_at h.o e3.symm)
        · have := h.lt fb (y4 fb fo e).1; omega
    · simp only [List.mem_singleton] at hx
      subst hx
      exact ⟨HoldsEd.nil _ _, fun _ => ⟨rfl, rfl⟩, Nat.le_refl _, fun fb fo e => by cases e⟩
  · injection hr with hr; injection hr with hr; subst hr
    exact ⟨Or.inr rfl, gq⟩
  · rw [sz]
    rcases hk with hk | hk
    · have := h.lt k hk; omega
    · rw [hk]; exact hlt
  · refine Turn.trans ?_ (Turn.setCell (Or.inl rfl))
    exact ⟨hg.os, hg.tape, hg.output, by omega, fun k hk hn => old k hk (fun r e h2 => hn (Or.inr (by rw [h2]; exact e)))⟩
/-- a node is laid in its place -/
theorem GMid.put {w : World} {g q nc : Nat} {NL : List NM} {S : Nat → Prop} (h : GMid w g (some ⟨q, 0, none⟩) nc NL S) (i : Nat) (hi : i < NL.length) (y : NM) (h1 : HoldsEd w y.ea y.es.length y.es) (h2 : y.ea = none → y.es.length = 0 ∧ y.ec = 0) (h3 : y.es.length ≤ y.ec) (h4 : ∀ fb fo, y.ea = some ⟨fb, fo, none⟩ → ¬ S fb ∧ fb < w.heap.size) :
    GMid ((w.setCell ⟨q, i * 2, none⟩ (.bool y.fin)).setCell ⟨q, i * 2 + 1, none⟩ (.slice y.ea y.es.length y.ec)) g (some ⟨q, 0, none⟩) nc (NL.set i y) (fun k => S k ∨ ∃ fo, y.ea = some ⟨k, fo, none⟩) ∧ Turn (fun k => k = q) w ((w.setCell ⟨q, i * 2, none⟩ (.bool y.fin)).setCell ⟨q, i * 2 + 1, none⟩ (.slice y.ea y.es.length y.ec)) := by
  obtain ⟨s1, s2⟩ := h.sn q rfl
  have far : ∀ k, k ≠ q → ((w.setCell ⟨q, i * 2, none⟩ (.bool y.fin)).setCell ⟨q, i * 2 + 1, none⟩ (.slice y.ea y.es.length y.ec)).heap[k]? = w.heap[k]? := fun k hk => (gheap_far hk).trans (gheap_far hk)
  have sz : ((w.setCell ⟨q, i * 2, none⟩ (.bool y.fin)).setCell ⟨q, i * 2 + 1, none⟩ (.slice y.ea y.es.length y.ec)).heap.size = w.heap.size := by simp [World.setCell]
  have own := ((h.o.stored (i * 2) (.bool y.fin)).1.stored (i * 2 + 1) (.slice y.ea y.es.length y.ec)).1
  rw [nmV_set NL i y hi] at own
  have og := far g (fun e => s2 e.symm)
  have ne2 : ∀ fb fo, y.ea = some ⟨fb, fo, none⟩ → fb ≠ q := fun fb fo e e2 => (h4 fb fo e).1 (by rw [e2]; exact s1)
  refine ⟨⟨?_, fun k => ?_, ?_, fun x hx => ?_, Or.inl h.sg, fun r hr => ⟨Or.inl (h.sn r hr).1, (h.sn r hr).2⟩, fun k hk => ?_⟩, ?_⟩
  · rw [List.length_set]; exact (World.cell?_of_block (w := w) og).trans h.c
  · rw [World.frozen?_of_block (w := w) og]; exact h.f k
  · rw [List.length_set]; exact own
  · rcases List.mem_or_eq_of_mem_set hx with hx | rfl
    · obtain ⟨y1, y2, y3, y4⟩ := h.e x hx
      exact ⟨holdsEd_blocks y1 (fun fb fo e => far fb (fun e2 => (y4 fb fo e).2.2 (by rw [e2]))), y2, y3, fun fb fo e => ⟨Or.inl (y4 fb fo e).1, (y4 fb fo e).2⟩⟩
    · refine ⟨holdsEd_blocks h1 (fun fb fo e => far fb (ne2 fb fo e)), h2, h3, fun fb fo e => ⟨Or.inr ⟨fo, e⟩, fun e2 => (h4 fb fo e).1 (by rw [e2]; exact h.sg), fun e2 => ?_⟩⟩
      injection e2 with e2; injection e2 with e2
      exact ne2 fb fo e e2.symm
  · rw [sz]
    rcases hk with hk | ⟨fo, hk⟩
    · exact h.lt k hk
    · exact (h4 k fo hk).2
  · exact (Turn.setCell (F := fun k => k = q) rfl).trans (Turn.setCell rfl)
def nmP (x : NM) : Bool × List EdP := (x.fin, x.es)
def gnP (x : GN) : Bool × List EdP := (x.final, x.edges)
def GAt (g : Nat) (st : List GN) (w : World) (S : Nat → Prop) : Prop := ∃ na nc NL, GMid w g na nc NL S ∧ NL.map nmP = st.map gnP
theorem gAt_ok (g : Nat) (st : List GN) : ObjOk (GAt g st) :=
  ⟨fun h t hF => by obtain ⟨na, nc, NL, m, e⟩ := h; exact ⟨na, nc, NL, m.blocks t.size (fun k hk => t.block k (m.lt k hk) (hF k hk)), e⟩, fun h => by obtain ⟨na, nc, NL, m, e⟩ := h; exact m.lt⟩
def ointG : Option Nat → Option Int
  | some i => some (i : Int)
  | none => none
/-- the builder in bb, its graph in g, its map in m -/
structure BMid (bb g m : Nat) (na : Option Addr) (nc : Nat) (NL : List NM) (st : List GN) (w : World) (S : Nat → Prop) : Prop where
  G : GMid w g na nc NL S
  eq : NL.map nmP = st.map gnP
  c0 : w.cell? ⟨bb, 0, none⟩ = some (.pointer (some ⟨g, 0, none⟩))
  c1 : w.cell? ⟨bb, 1, none⟩ = some (.map (some m))
  M : ∃ f, MapS w m st.length f ∧ ∀ l, (∀ t ∈ l, 0 ≤ lenS t) → f (nameL l) = ointG (findG st l)
  sb : S bb
  sm : S m
  n1 : g ≠ m
  n2 : bb ≠ m
  n3 : bb ≠ g
  n4 : ∀ q, na = some ⟨q, 0, none⟩ → q ≠ m ∧ q ≠ bb
  n5 : ∀ x ∈ NL, ∀ fb fo, x.ea = some ⟨fb, fo, none⟩ → fb ≠ m ∧ fb ≠ bb
def QB (bb g m : Nat) (st : List GN) (w : World) (S : Nat → Prop) : Prop := ∃ na nc NL, BMid bb g m na nc NL st w S
theorem BMid.blocks {bb g m : Nat} {na : Option Addr} {nc : Nat} {NL : List NM} {st : List GN} {w w' : World} {S : Nat → Prop} (h : BMid bb g m na nc NL st w S) (hs : w.heap.size ≤ w'.heap.size) (hb : ∀ k, S k → w'.heap[k]? = w.heap[k]?) : BMid bb g m na nc NL st w' S := by
  obtain ⟨f, h1, h2⟩ := h.M
  have eb := hb bb h.sb
  exact ⟨h.G.blocks hs hb, h.eq, (World.cell?_of_block (w := w) eb).trans h.c0, (World.cell?_of_block (w := w) eb).trans h.c1, ⟨f, h1.block (hb m h.sm), h2⟩, h.sb, h.sm, h.n1, h.n2, h.n3, h.n4, h.n5⟩
theorem qb_ok (bb g m : Nat) (st : List GN) : ObjOk (QB bb g m st) :=
  ⟨fun h t hF => by obtain ⟨na, nc, NL, x⟩ := h; exact ⟨na, nc, NL, x.blocks t.size (fun k hk => t.block k (x.G.lt k hk) (hF k hk))⟩, fun h => by obtain ⟨na, nc, NL, x⟩ := h; exact x.G.lt⟩
theorem find_snoc {st : List GN} {s l : List Tx} {g : GN} (hg : g.rests = s) : findG (st ++ [g]) l = match findG st l with | some i => some i | none => if s = l then some st.length else none := by
  subst hg
  unfold findG
  rw [List.findIdx?_append]
  cases h : List.findIdx? (fun g => decide (g.rests = l)) st with
  | some i => simp
  | none =>
    by_cases e : g.rests = l
    · simp [e]
    · simp [e]
/-- behind a name more, and a node more -/
theorem BMid.fresh {bb g m : Nat} {na : Option Addr} {nc : Nat} {NL : List NM} {st : List GN} {w w2 w3 : World} {S : Nat → Prop} {q cap : Nat} {s : List Tx} {o : Obj} {fm : List UInt8 → Option Int} (h : BMid bb g m na nc NL st w S) (ms : MapS w2 m (st.length + 1) (sset fm (nameL s) (some (st.length : Int)))) (t2 : Turn (fun k => k = m) w w2) (hF : ∀ l, (∀ t ∈ l, 0 ≤ lenS t) → fm (nameL l) = ointG (findG st l)) (hs : ∀ t ∈ s, 0 ≤ lenS t) (hf : findG st s = none)
    (own : w3.ownsRow 0 132 2 (.slice (some ⟨q, 0, none⟩) (NL.length + 1) cap) (NL.length + 1) (nmV NL ++ [.bool false, .slice none 0 0]))
    (hg : (w2.alloc o).grownBy w3 (Value.slice na NL.length nc).ownBlock) (hat : (Value.slice na NL.length nc).ownBlock = some q ∨ q = (w2.alloc o).heap.size) (hlt : q < w3.heap.size) :
    ∃ S', BMid bb g m (some ⟨q, 0, none⟩) cap (NL ++ [nm0]) (st ++ [⟨s, false, []⟩]) (w3.setCell ⟨g, 0, none⟩ (.slice (some ⟨q, 0, none⟩) (NL.length + 1) cap)) S' ∧ (∀ k, S' k → S k ∨ w.heap.size ≤ k) ∧ Turn S w (w3.setCell ⟨g, 0, none⟩ (.slice (some ⟨q, 0, none⟩) (NL.length + 1) cap)) := by
  have G2 := h.G.but t2 h.n1 (fun r hr => (h.n4 r hr).1) (fun x hx fb fo e => (h.n5 x hx fb fo e).1)
  obtain ⟨G3, t3, hw⟩ := G2.grow own hg hat hlt
  have hz := t2.size
  have lb := h.G.lt bb h.sb
  have lm := h.G.lt m h.sm
  have bn : bb ≠ m := h.n2
  have qm : q ≠ m ∧ q ≠ bb := by
    rcases hw with e | e
    · exact h.n4 q e
    · exact ⟨by omega, by omega⟩
  have nbF : ¬ (bb = g ∨ na = some ⟨bb, 0, none⟩) := fun e => by
    rcases e with e | e
    · exact h.n3 e
    · exact (h.n4 bb e).2 rfl
  have nmF : ¬ (m = g ∨ na = some ⟨m, 0, none⟩) := fun e => by
    rcases e with e | e
    · exact h.n1 e.symm
    · exact (h.n4 m e).1 rfl
  refine ⟨_, ⟨G3, ?_, ?_, ?_, ⟨sset fm (nameL s) (some (st.length : Int)), ?_, fun l hl => ?_⟩, Or.inl h.sb, Or.inl h.sm, h.n1, h.n2, h.n3, fun r hr => ?_, fun x hx fb fo e => ?_⟩, fun k hk => ?_, ?_⟩
  · rw [List.map_append, List.map_append, h.eq]; rfl
  · rw [t3.cell (by omega) nbF, t2.cell lb bn]; exact h.c0
  · rw [t3.cell (by omega) nbF, t2.cell lb bn]; exact h.c1
  · rw [List.length_append, List.length_singleton]
    exact ms.turn t3 nmF
  · rw [find_snoc rfl]
    by_cases e : l = s
    · subst e
      rw [sset_at, hf]; simp [ointG]
    · rw [sset_ne _ _ _ _ (fun e2 => e (nameL_inj l s hl hs e2)), hF l hl]
      cases findG st l with
      | some i => rfl
      | none => simp [ointG, Ne.symm e]
  · injection hr with hr; injection hr with hr; subst hr
    exact qm
  · rcases List.mem_append.1 hx with hx | hx
    · exact h.n5 x hx fb fo e
    · simp only [List.mem_singleton] at hx
      subst hx; cases e
  · rcases hk with hk | hk
    · exact Or.inl hk
    · rcases hw with e | e
      · exact Or.inl (by rw [hk]; exact (h.G.sn q e).1)
      · exact Or.inr (by omega)
  · refine (t2.mono (fun k hk => by rw [hk]; exact h.sm)).trans (t3.mono (fun k hk => ?_))
    rcases hk with e | e
    · rw [e]; exact h.G.sg
    · exact (h.G.sn k e).1
end Go.Proofs.YtbbholdadgjelaaGreat
/- graph: reach -/
namespace Go.Proofs.YtbbholdadgjelaaGreat
open Go.RowKit
set_option linter.unusedVariables false
set_option maxRecDepth 20000
theorem own_blockG {w : World} {base fb fo : Nat} {e : TypeId} {size : Nat} {a : Option Addr} {n c : Nat} {xs : List Value} (h : w.ownsRow base e size (.slice a n c) n xs) (ha : a = some ⟨fb, fo, none⟩) : base ≤ fb ∧ fb < w.heap.size := by
  rcases Joins.ownsRow_forms h with ⟨e1, _⟩ | ⟨g, cap, e1⟩
  · injection e1 with e2; rw [ha] at e2; cases e2
  · injection e1 with e2; rw [ha] at e2; injection e2 with e2; injection e2 with e2 e3; subst e2; subst e3; rw [ha] at h; exact h.lt _ rfl
/-- what the loop goes by -/
structure RL (bb g m : Nat) (W : World) (S : Nat → Prop) (p : Nat) (fin : Bool) (st1 : List GN) (ea : Option Addr) (ec : Nat) (es : List EdP) (sa : Option Addr) (l : List Tx) (S1 : Nat → Prop) (w : World) : Prop where
  q : QB bb g m st1 w S1
  sub : ∀ k, S1 k → S k ∨ W.heap.size ≤ k
  t : Turn S W w
  np : ¬ S1 p
  pw : W.heap.size ≤ p
  c0 : w.cell? ⟨p, 0, none⟩ = some (.bool fin)
  c1 : w.cell? ⟨p, 1, none⟩ = some (.slice ea es.length ec)
  fr : ∀ i, w.frozen? ⟨p, i, none⟩ = false
  o : w.ownsRow W.heap.size 116 2 (.slice ea es.length ec) es.length (edsV es)
  ne : ∀ k, ea = some ⟨k, 0, none⟩ → ¬ S1 k ∧ k ≠ p
  hl : HoldsT w sa l.length l
  la : 0 < l.length → ∀ fb fo, sa = some ⟨fb, fo, none⟩ → ¬ S fb ∧ fb < W.heap.size
theorem RL.qlt {bb g m : Nat} {W : World} {S : Nat → Prop} {p : Nat} {fin : Bool} {st1 : List GN} {ea : Option Addr} {ec : Nat} {es : List EdP} {sa : Option Addr} {l : List Tx} {S1 : Nat → Prop} {w : World} (h : RL bb g m W S p fin st1 ea ec es sa l S1 w) : ∀ k, S1 k → k < w.heap.size := (qb_ok bb g m st1).lt h.q
theorem RL.la1 {bb g m : Nat} {W : World} {S : Nat → Prop} {p : Nat} {fin : Bool} {st1 : List GN} {ea : Option Addr} {ec : Nat} {es : List EdP} {sa : Option Addr} {l : List Tx} {S1 : Nat → Prop} {w : World} (h : RL bb g m W S p fin st1 ea ec es sa l S1 w) : 0 < l.length → ∀ fb fo, sa = some ⟨fb, fo, none⟩ → ¬ S1 fb := fun h0 fb fo e hk => by
  have h1 := h.la h0 fb fo e
  rcases h.sub fb hk with x | x
  · exact h1.1 x
  · omega
theorem holdsT_turn {w w' : World} {a : Option Addr} {n : Nat} {ts : List Tx} {F : Nat → Prop} (h : HoldsT w a n ts) (t : Turn F w w') (hF : 0 < n → ∀ fb fo, a = some ⟨fb, fo, none⟩ → ¬ F fb) : HoldsT w' a n ts := by
  rcases Nat.eq_zero_or_pos n with h0 | h0
  · subst h0
    have hl := h.len
    have : ts = [] := List.eq_nil_of_length_eq_zero hl
    subst this
    exact HoldsT.nil _ _
  · obtain ⟨b, o, rfl, hc⟩ := h.at h0
    exact HoldsT.of h.len (fun i hi => (t.cell (lt_of_cell (hc i hi)) (hF h0 b o rfl)).trans (hc i hi))
theorem RL.more {bb g m : Nat} {W : World} {S : Nat → Prop} {p : Nat} {fin : Bool} {st1 : List GN} {ea : Option Addr} {ec : Nat} {es : List EdP} {sa : Option Addr} {l : List Tx} {S1 : Nat → Prop} {w w' : World} (h : RL bb g m W S p fin st1 ea ec es sa l S1 w) (hb : Below w.heap.size w w') : RL bb g m W S p fin st1 ea ec es sa l S1 w' := by
  have hp := lt_of_cell h.c0
  exact ⟨(qb_ok bb g m st1).below h.q hb, h.sub, h.t.trans (Turn.of_below hb), h.np, h.pw, (hb.cell (p := ⟨p, 0, none⟩) hp).trans h.c0, (hb.cell (p := ⟨p, 1, none⟩) hp).trans h.c1, fun i => (hb.frozen (p := ⟨p, i, none⟩) hp).trans (h.fr i), owns_below h.o hb, h.ne, h.hl.below hb, h.la⟩
/-- behind a call that turns the builder's blocks alone -/
theorem RL.step {bb g m : Nat} {W : World} {S : Nat → Prop} {p : Nat} {fin : Bool} {st1 st2 : List GN} {ea : Option Addr} {ec : Nat} {es : List EdP} {sa : Option Addr} {l : List Tx} {S1 : Nat → Prop} {w w' : World} (h : RL bb g m W S p fin st1 ea ec es sa l S1 w) (k : PO (QB bb g m st2) w S1 w') : ∃ S2, RL bb g m W S p fin st2 ea ec es sa l S2 w' := by
  obtain ⟨S2, q2, s2, t2⟩ := k
  have hp := lt_of_cell h.c0
  have hz := h.t.size
  refine ⟨S2, q2, fun k hk => ?_, h.t.trans' t2 (fun i hi => h.sub i hi), fun hk => ?_, h.pw, (t2.cell hp h.np).trans h.c0, (t2.cell hp h.np).trans h.c1, fun i => (t2.frozen hp h.np).trans (h.fr i), gowns_block h.o (fun r hr => t2.block r (h.o.lt r (by rw [hr]; rfl)).2 (h.ne r hr).1), fun k hk => ⟨fun hk2 => ?_, (h.ne k hk).2⟩, holdsT_turn h.hl t2 h.la1, h.la⟩
  · rcases s2 k hk with x | x
    · exact h.sub k x
    · exact Or.inr (by omega)
  · rcases s2 p hk with x | x
    · exact h.np x
    · omega
  · rcases s2 k hk2 with x | x
    · exact (h.ne k hk).1 x
    · have := (h.o.lt k (by rw [hk]; rfl)).2; omega
/-- behind an edge more -/
theorem RL.edge {bb g m : Nat} {W : World} {S : Nat → Prop} {p q cap : Nat} {fin : Bool} {st1 : List GN} {ea : Option Addr} {ec : Nat} {es : List EdP} {sa : Option Addr} {l : List Tx} {S1 : Nat → Prop} {w w6 : World} {o : Obj} {x : EdP} (h : RL bb g m W S p fin st1 ea ec es sa l S1 w)
    (own : w6.ownsRow W.heap.size 116 2 (.slice (some ⟨q, 0, none⟩) (es.length + 1) cap) (es.length + 1) (edsV es ++ cellsEd x))
    (hg : (w.alloc o).grownBy w6 (Value.slice ea es.length ec).ownBlock) (hat : (Value.slice ea es.length ec).ownBlock = some q ∨ q = (w.alloc o).heap.size) :
    RL bb g m W S p fin st1 (some ⟨q, 0, none⟩) cap (es ++ [x]) sa l S1 (w6.setCell ⟨p, 1, none⟩ (.slice (some ⟨q, 0, none⟩) (es.length + 1) cap)) := by
  have hza : (w.alloc o).heap.size = w.heap.size + 1 := by simp
  have hz6 := hg.size
  have hp := lt_of_cell h.c0
  have hz := h.t.size
  have old : ∀ k, k < w.heap.size → (∀ r, ea = some ⟨r, 0, none⟩ → k ≠ r) → w6.heap[k]? = w.heap[k]? := fun k hk hn =>
    (hg.block k (by omega) (fun e => hn k (gown_at h.o e) rfl)).trans (Below.heap_alloc _ _ _ (by omega))
  have op := old p hp (fun r e hq => (h.ne r e).2 hq.symm)
  have qw : W.heap.size ≤ q := (own.lt q rfl).1
  have qp : q ≠ p := by
    rcases hat with e | e
    · exact (h.ne q (gown_at h.o e.symm)).2
    · omega
  have qS : ¬ S1 q := by
    rcases hat with e | e
    · exact (h.ne q (gown_at h.o e.symm)).1
    · intro hk; have := h.qlt q hk; omega
  have t1 : Turn (fun k => ea = some ⟨k, 0, none⟩) w w6 := ⟨hg.os, hg.tape, hg.output, by omega, fun k hk hn => old k hk (fun r e e2 => hn (by rw [e2]; exact e))⟩
  have t2 : Turn (fun k => ea = some ⟨k, 0, none⟩ ∨ k = p) w (w6.setCell ⟨p, 1, none⟩ (.slice (some ⟨q, 0, none⟩) (es.length + 1) cap)) := (t1.mono fun k hk => Or.inl hk).trans (Turn.setCell (Or.inr rfl))
  have hS : ∀ k, S1 k → ¬ (ea = some ⟨k, 0, none⟩ ∨ k = p) := fun k hk e => by
    rcases e with e | e
    · exact (h.ne k e).1 hk
    · exact h.np (by rw [← e]; exact hk)
  refine ⟨(qb_ok bb g m st1).turn h.q t2 hS, h.sub, h.t.trans' t2 (fun k hk => Or.inr ?_), h.np, h.pw, ?_, ?_, fun i => ?_, ?_, fun k hk => ?_, holdsT_turn h.hl t2 (fun h0 fb fo e e2 => ?_), h.la⟩
  · rcases hk with e | e
    · exact (h.o.lt k (by rw [e]; rfl)).1
    · rw [e]; exact h.pw
  · rw [cset_ne (by omega)]; exact (World.cell?_of_block (w := w) op).trans h.c0
  · rw [List.length_append, List.length_singleton]; exact cset_at ((World.cell?_of_block (w := w) op).trans h.c1)
  · rw [fset_any]; exact (World.frozen?_of_block (w := w) op).trans (h.fr i)
  · rw [List.length_append, List.length_singleton, edsV_snoc]
    exact gowns_block own (fun r hr => by injection hr with hr; injection hr with hr; subst hr; exact gheap_far qp)
  · injection hk with hk; injection hk with hk; subst hk
    exact ⟨qS, qp⟩
  · have h1 := h.la h0 fb fo e
    rcases e2 with e2 | e2
    · have := (h.o.lt fb (by rw [e2]; rfl)).1; omega
    · have := h.pw; omega
/-- behind the flag, and another list -/
theorem RL.flag {bb g m : Nat} {W : World} {S : Nat → Prop} {p : Nat} {fin b : Bool} {st1 : List GN} {ea : Option Addr} {ec : Nat} {es : List EdP} {sa sa' : Option Addr} {l l' : List Tx} {S1 : Nat → Prop} {w : World} (h : RL bb g m W S p fin st1 ea ec es sa l S1 w) (hl : HoldsT w sa' l'.length l') (hla : 0 < l'.length → ∀ fb fo, sa' = some ⟨fb, fo, none⟩ → ¬ S fb ∧ fb < W.heap.size) :
    RL bb g m W S p b st1 ea ec es sa' l' S1 (w.setCell ⟨p, 0, none⟩ (.bool b)) := by
  have t2 : Turn (fun k => k = p) w (w.setCell ⟨p, 0, none⟩ (.bool b)) := Turn.setCell rfl
  have hpw := h.pw
  exact ⟨(qb_ok bb g m st1).turn h.q t2 (fun k hk e => h.np (by rw [← e]; exact hk)), h.sub, h.t.trans' t2 (fun k hk => Or.inr (by rw [hk]; exact h.pw)), h.np, h.pw, cset_at h.c0, (cset_ne (by omega)).trans h.c1, fun i => fset_any.trans (h.fr i), gowns_block h.o (fun r hr => gheap_far (h.ne r hr).2), h.ne, holdsT_turn hl t2 (fun h0 fb fo e e2 => by have := (hla h0 fb fo e).2; omega), hla⟩
theorem RL.other {bb g m : Nat} {W : World} {S : Nat → Prop} {p : Nat} {fin : Bool} {st1 : List GN} {ea : Option Addr} {ec : Nat} {es : List EdP} {sa sa' : Option Addr} {l l' : List Tx} {S1 : Nat → Prop} {w : World} (h : RL bb g m W S p fin st1 ea ec es sa l S1 w) (hl : HoldsT w sa' l'.length l') (hla : 0 < l'.length → ∀ fb fo, sa' = some ⟨fb, fo, none⟩ → ¬ S fb ∧ fb < W.heap.size) :
    RL bb g m W S p fin st1 ea ec es sa' l' S1 w := ⟨h.q, h.sub, h.t, h.np, h.pw, h.c0, h.c1, h.fr, h.o, h.ne, hl, hla⟩
theorem RL.keep {bb g m : Nat} {W : World} {S : Nat → Prop} {p : Nat} {fin : Bool} {st1 : List GN} {ea : Option Addr} {ec : Nat} {es : List EdP} {sa : Option Addr} {l : List Tx} {S1 : Nat → Prop} {w w6 : World} {o : Obj} (h : RL bb g m W S p fin st1 ea ec es sa l S1 w) (hg : (w.alloc o).grownBy w6 (Value.slice ea es.length ec).ownBlock) : w6.cell? ⟨p, 1, none⟩ = some (.slice ea es.length ec) ∧ w6.frozen? ⟨p, 1, none⟩ = false := by
  have hp := lt_of_cell h.c0
  have op := (hg.block p (by simp; omega) (fun e => (h.ne p (gown_at h.o e)).2 rfl)).trans (Below.heap_alloc w o p hp)
  exact ⟨(World.cell?_of_block (w := w) op).trans h.c1, (World.frozen?_of_block (w := w) op).trans (h.fr 1)⟩
/-- the place where the node is to lie -/
theorem RL.target {bb g m : Nat} {W : World} {S : Nat → Prop} {p : Nat} {fin : Bool} {st1 : List GN} {ea : Option Addr} {ec : Nat} {es : List EdP} {sa : Option Addr} {l : List Tx} {S1 : Nat → Prop} {w : World} (h : RL bb g m W S p fin st1 ea ec es sa l S1 w) (i : Nat) (hi : i < st1.length) (s : List Tx) (hr : (st1.getD i gn0).rests = s) :
    ∃ na nc NL q, BMid bb g m na nc NL st1 w S1 ∧ na = some ⟨q, 0, none⟩ ∧ (∃ v, w.cell? ⟨q, i * 2, none⟩ = some v) ∧ (∃ v, w.cell? ⟨q, i * 2 + 1, none⟩ = some v) ∧ (∀ k, w.frozen? ⟨q, k, none⟩ = false) ∧ q ≠ p ∧
      PO (QB bb g m (st1.set i ⟨s, fin, es⟩)) W S ((w.setCell ⟨q, i * 2, none⟩ (.bool fin)).setCell ⟨q, i * 2 + 1, none⟩ (.slice ea es.length ec)) := by
  obtain ⟨na, nc, NL, B⟩ := h.q
  have hnl : NL.length = st1.length := by have := congrArg List.length B.eq; simpa using this
  obtain ⟨q, rfl, h0, h1⟩ := B.G.at (i := i) (by omega)
  have sq := B.G.sn q rfl
  have hea : ∀ fb fo, ea = some ⟨fb, fo, none⟩ → ¬ S1 fb ∧ fb < w.heap.size ∧ W.heap.size ≤ fb := fun fb fo e => by
    have hb := own_blockG h.o e
    rcases Joins.ownsRow_forms h.o with ⟨e1, _⟩ | ⟨g2, cap, e1⟩
    · injection e1 with e2; rw [e] at e2; cases e2
    · injection e1 with e2; rw [e] at e2; injection e2 with e2; injection e2 with e2 e3; subst e2; subst e3
      exact ⟨(h.ne _ e).1, hb.2, hb.1⟩
  obtain ⟨P1, P2⟩ := B.G.put i (by omega) ⟨fin, ea, ec, es⟩ (HoldsEd.own h.o) (owns_none h.o).1 (owns_none h.o).2 (fun fb fo e => ⟨(hea fb fo e).1, (hea fb fo e).2.1⟩)
  refine ⟨_, nc, NL, q, B, rfl, ⟨_, h0⟩, ⟨_, h1⟩, fun k => B.G.o.frozenAt k, fun e => h.np (by rw [← e]; exact sq.1), _, ⟨_, nc, _, ⟨P1, ?_, ?_, ?_, ?_, Or.inl B.sb, Or.inl B.sm, B.n1, B.n2, B.n3, B.n4, fun x hx fb fo e => ?_⟩⟩, fun k hk => ?_, h.t.trans' P2 (fun k hk => by rw [hk]; exact h.sub q sq.1)⟩
  · rw [List.map_set, List.map_set, B.eq]; rfl
  · exact (P2.cell (lt_of_cell B.c0) (fun e => (B.n4 q rfl).2 e.symm)).trans B.c0
  · exact (P2.cell (lt_of_cell B.c0) (fun e => (B.n4 q rfl).2 e.symm)).trans B.c1
  · obtain ⟨f, m1, m2⟩ := B.M
    refine ⟨f, ?_, fun l hl => ?_⟩
    · rw [List.length_set]; exact m1.turn P2 (fun e => (B.n4 q rfl).1 e.symm)
    · rw [m2 l hl, find_set hi (by rw [hr])]
  · rcases List.mem_or_eq_of_mem_set hx with hx | rfl
    · exact B.n5 x hx fb fo e
    · have h3 := hea fb fo e
      exact ⟨fun e2 => h3.1 (by rw [e2]; exact B.sm), fun e2 => h3.1 (by rw [e2]; exact B.sb)⟩
  · rcases hk with hk | ⟨fo, hk⟩
    · exact h.sub k hk
    · exact Or.inr (hea k fo hk).2.2
theorem g4_store {w : World} {b g p q i j : Nat} {v1 v2 v3 v4 u v : Value} (hb : q ≠ b) (hg : q ≠ g) (hp : q ≠ p) (h : w.cell? ⟨b, 0, none⟩ = some v1 ∧ w.cell? ⟨g, 0, none⟩ = some v2 ∧ w.cell? ⟨p, 0, none⟩ = some v3 ∧ w.cell? ⟨p, 1, none⟩ = some v4) :
    ((w.setCell ⟨q, i, none⟩ u).setCell ⟨q, j, none⟩ v).cell? ⟨b, 0, none⟩ = some v1 ∧ ((w.setCell ⟨q, i, none⟩ u).setCell ⟨q, j, none⟩ v).cell? ⟨g, 0, none⟩ = some v2 ∧ ((w.setCell ⟨q, i, none⟩ u).setCell ⟨q, j, none⟩ v).cell? ⟨p, 0, none⟩ = some v3 ∧ ((w.setCell ⟨q, i, none⟩ u).setCell ⟨q, j, none⟩ v).cell? ⟨p, 1, none⟩ = some v4 :=
  ⟨((cset_far hb).trans (cset_far hb)).trans h.1, ((cset_far hg).trans (cset_far hg)).trans h.2.1, ((cset_far hp).trans (cset_far hp)).trans h.2.2.1, ((cset_far hp).trans (cset_far hp)).trans h.2.2.2⟩
def sliceLenG : Value → Nat
  | .slice _ n _ => n
  | _ => 0
theorem tx_nil (t : Tx) : t = (⟨#[]⟩ : ByteArray) ↔ t.toList = [] := by
  have e : (⟨#[]⟩ : ByteArray).toList = [] := by kernel_rfl
  constructor
  · intro h; rw [h]; exact e
  · intro h
    have : cmpS t ⟨#[]⟩ = 0 := by unfold cmpS; rw [h, e]; exact cmpL_same _
    exact cmpS_zero.1 this
end Go.Proofs.YtbbholdadgjelaaGreat
/- graph: reach, its contract -/
namespace Go.Proofs.YtbbholdadgjelaaGreat
open Go.RowKit Go.Maps
set_option linter.unusedVariables false
set_option maxRecDepth 20000
theorem nodeG_info : (Tryz.prog.info? 132).map (fun i => (i.zero, i.size, i.bytes)) = some (some (.agg #[.bool false, .slice none 0 0]), 2, 32) := by kernel_rfl
theorem edgeG_info : (Tryz.prog.info? 116).map (fun i => (i.zero, i.size, i.bytes)) = some (some (.agg #[.int .i32 0, .int .i64 0]), 2, 16) := by kernel_rfl
def Away (w : World) (S : Nat → Prop) (a : Option Addr) (n : Nat) : Prop := 0 < n → ∀ fb fo, a = some ⟨fb, fo, none⟩ → ¬ S fb ∧ fb < w.heap.size
def ReachP (bb g m : Nat) (w : World) (S : Nat → Prop) (r : Nat × List GN) (e : Ending) (w' : World) : Prop := e = .returned (.int .i64 r.1) ∧ PO (QB bb g m r.2) w S w'
def ReachAny (bb g m f : Nat) : Prop := ∀ (st : List GN) (s : List Tx) (a : Option Addr) (cap : Nat) (S : Nat → Prop) (w : World), QB bb g m st w S → OkL f s → HoldsT w a s.length s → Away w S a s.length → s.length ≤ cap → st.length + wtS s + 1 ≤ 1000000 →
    Calls Tryz.prog 69 #[.pointer (some ⟨bb, 0, none⟩), .slice a s.length cap] w (ReachP bb g m w S (reachF (f + 1) st s))
set_option maxHeartbeats 6400000 in
set_option maxRecDepth 100000 in
theorem reach_step (bb g m f : Nat) (IH : ∀ f', f = f' + 1 → ReachAny bb g m f') : ReachAny bb g m f := by
  intro st s a cap S w hQ hO hH hA hc hb
  obtain ⟨i0, hi, hz0, hz1, hz2⟩ := info_parts nodeG_info
  obtain ⟨j0, hj, hy0, hy1, hy2⟩ := info_parts edgeG_info
  have IHH := Lib.hid IH; have OK := Lib.hid hO; have HH := Lib.hid hH; have AW := Lib.hid hA; have QW := Lib.hid hQ
  obtain ⟨n, hn⟩ : ∃ n, s.length = n := ⟨_, rfl⟩
  have HN := Lib.hid hn
  rw [hn] at hH hc
  have hn100 : n ≤ 100 := by have := hO.n; omega
  have CN := Lib.hid (nameOf_any a n cap s w hH hn100 hO.sz)
  clear hQ hO hH hA IH
  rw [hn]
  clear hn
  go_enter Tryz.func69, Tryz.ntmps69
  go_wp2_with fail
  refine CN.out.mono ?_
  rintro e w' ⟨⟨nm, rfl, hnm⟩, rfl⟩
  have NM := Lib.hid hnm
  have nz : nm.size ≤ 10100 := by
    have h1 := nameL_len s OK.out.sz
    have h2 : nm.data.toList.length = nm.size := by simp
    rw [NM.out] at h2
    have h3 := HN.out
    have : s.length * 101 ≤ 10100 := by omega
    omega
  have nzl : nm.size ≤ maxLen := by unfold maxLen; omega
  clear hnm CN
  obtain ⟨na, nc, NL, B⟩ := QW.out
  obtain ⟨fm, hM, hF⟩ := B.M
  have c0 := B.c0
  have c1 := B.c1
  have BW := Lib.hid B
  have HF := Lib.hid hF
  have fnm : fm nm.data.toList = ointG (findG st s) := by rw [NM.out]; exact hF s OK.out.lo
  have hnl : NL.length = st.length := by have := congrArg List.length B.eq; simpa using this
  clear hF B
  cases hfd : findG st s with
  | some i =>
    rw [hfd] at fnm
    have FN := Lib.hid (show fm nm.data.toList = some (i : Int) from fnm)
    have R := Lib.hid (show reachF (f + 1) st s = (i, st) from by unfold reachF; rw [hfd])
    clear fnm hfd
    go_wp2_with (at_lookup; refine wpList_look_ms rfl _ _ rfl rfl hM nm rfl nzl ?_; rw [FN.out])
    go_ret
    rw [R.out]
    exact ⟨rfl, S, QW.out, fun k hk => Or.inl hk, Turn.refl _ _⟩
  | none =>
    rw [hfd] at fnm
    have FN := Lib.hid (show fm nm.data.toList = none from fnm)
    have FD := Lib.hid hfd
    clear fnm hfd
    have gc := BW.out.G.c
    rw [hnl] at gc
    have HNL := Lib.hid hnl
    clear hnl
    have ms : MapS w m st.length fm := hM
    have hst : st.length < maxLen := by unfold maxLen; omega
    have nwf : (Lit.int .i64 (st.length : Int)).wf = true := Go.WalkArith.wf_i64 (by omega)
    obtain ⟨w2, hrun, ms2, tm2⟩ := ms.put_run hst nm (st.length : Int) nzl nwf
    rw [FN.out] at ms2
    have MS2 := Lib.hid (show MapS w2 m (st.length + 1) (sset fm (nameL s) (some (st.length : Int))) from by rw [← NM.out]; exact ms2)
    have TM2 := Lib.hid tm2
    have t2 := Turn.of_mapTurnedS (F := fun k => k = m) tm2 rfl
    have T2 := Lib.hid t2
    have G2 := Lib.hid (BW.out.G.but t2 BW.out.n1 (fun r hr => (BW.out.n4 r hr).1) (fun x hx fb fo e => (BW.out.n5 x hx fb fo e).1))
    have d0 : w2.cell? ⟨bb, 0, none⟩ = some (.pointer (some ⟨g, 0, none⟩)) := (t2.cell (lt_of_cell c0) BW.out.n2).trans c0
    have dc : w2.cell? ⟨g, 0, none⟩ = some (.slice na st.length nc) := (t2.cell (lt_of_cell gc) BW.out.n1).trans gc
    clear ms2 tm2 t2 ms
    go_upto_region 7 with (at_lookup; refine wpList_look_ms rfl _ _ rfl rfl hM nm rfl nzl ?_; rw [FN.out])
    have OWN := Lib.hid (show w2.drew.ownsRow 0 132 2 (.slice na st.length nc) st.length (nmV NL) from by have := G2.out.o; rw [HNL.out] at this; exact owns_below this (Below.refl _ _).drew)
    have AB := Lib.hid (show ∀ o w', (w2.drew.alloc o).grownBy w' (Value.slice na st.length nc).ownBlock → w'.cell? ⟨bb, 0, none⟩ = some (.pointer (some ⟨g, 0, none⟩)) ∧ w'.cell? ⟨g, 0, none⟩ = some (.slice na st.length nc) ∧ w'.frozen? ⟨g, 0, none⟩ = false from fun o w' hg => by
      have lb := lt_of_cell d0
      have lg := lt_of_cell dc
      have o1 := (hg.block bb (by simp; omega) (fun e => (BW.out.n4 bb (gown_at OWN.out e)).2 rfl)).trans (Below.heap_alloc w2.drew o bb lb)
      have o2 := (hg.block g (by simp; omega) (fun e => (BW.out.G.sn g (gown_at OWN.out e)).2 rfl)).trans (Below.heap_alloc w2.drew o g lg)
      exact ⟨(World.cell?_of_block (w := w2) o1).trans d0, (World.cell?_of_block (w := w2) o2).trans dc, (World.frozen?_of_block (w := w2) o2).trans (G2.out.f 0)⟩)
    have n1 : w2.drew.cell? ⟨bb, 0, none⟩ = some (.pointer (some ⟨g, 0, none⟩)) := d0
    have n2 : w2.drew.cell? ⟨g, 0, none⟩ = some (.slice na st.length nc) := dc
    have n3 : (w2.alloc (.cells #[.bool false, .slice none 0 0] 132)).drew.cell? ⟨bb, 0, none⟩ = some (.pointer (some ⟨g, 0, none⟩)) := (Below.cell (below_one w2 _) (p := ⟨bb, 0, none⟩) (lt_of_cell d0)).trans d0
    have n4 : (w2.alloc (.cells #[.bool false, .slice none 0 0] 132)).drew.cell? ⟨g, 0, none⟩ = some (.slice na st.length nc) := (Below.cell (below_one w2 _) (p := ⟨g, 0, none⟩) (lt_of_cell dc)).trans dc
    have n5 : (w2.alloc (.cells #[.bool false, .slice none 0 0] 132)).cell? ⟨bb, 0, none⟩ = some (.pointer (some ⟨g, 0, none⟩)) := n3
    have n6 : (w2.alloc (.cells #[.bool false, .slice none 0 0] 132)).cell? ⟨g, 0, none⟩ = some (.slice na st.length nc) := n4
    have hst2 : st.length ≤ 1000000 := by omega
    clear hM c0 c1 gc hrun
    go_cut [] (fun wc => Hid (PO (QB bb g m (st ++ [⟨s, false, []⟩])) w S wc))
    case first =>
      go_region_law
        (refine step_append_lies _ (by rfl) _ _ _ (by rfl) 0 132 i0 _ 2 32 Tryz.underlying105 hi hz0 hz1 hz2 rfl (by omega) (.slice na st.length nc) st.length (nmV NL) (by rfl) (OWN.out.alloc _) ⟨w2.drew.heap.size, 0, none⟩ 1 1 [.bool false, .slice none 0 0] (by rfl) (by rfl) (World.news_of_block (cs := #[.bool false, .slice none 0 0]) (t := 132) (fr := (0, 0)) (heap_alloc_new w2.drew _)) (by simp [Value.oneCell']) (by omega) (by unfold maxLen; omega) (by omega) (by omega) (w2.drew.heap.size + 1) (by simp) ?_; intro g3 c3 w3 hown3 hgrow3 hat3 hlt3; obtain ⟨x0, x1, x2⟩ := AB.out _ _ hgrow3)
      all_goals
        have FR := Lib.hid (BW.out.fresh (w2 := w2.drew) (w3 := w3) (q := g3) (cap := c3) (s := s) (fm := fm) (MapS.block MS2.out rfl) T2.out.drew HF.out OK.out.lo FD.out (by rw [HNL.out]; exact hown3) (by rw [HNL.out]; exact hgrow3) (by rw [HNL.out]; exact hat3.imp id (fun e => by simp; exact e)) hlt3)
        rw [HNL.out] at FR
        clear hown3 hgrow3 hat3 hlt3 x0 x1 x2
        go_wp2_with fail
        go_meet
        obtain ⟨S', h1, h2, h3⟩ := FR.out
        exact Lib.hid ⟨S', ⟨_, _, _, h1⟩, h2, h3⟩
    case rest =>
      rename World => wc
      obtain ⟨Sc, qc, sc0, tc⟩ := hcut.out
      have HHT := Lib.hid (show HoldsT wc a s.length s from holdsT_turn HH.out tc (fun h0 fb fo e => (AW.out h0 fb fo e).1))
      have LC := (qb_ok bb g m (st ++ [⟨s, false, []⟩])).lt qc
      have R0 := Lib.hid (show RL bb g m w S wc.heap.size false (st ++ [⟨s, false, []⟩]) none 0 [] a s Sc (wc.alloc (.cells #[.bool false, .slice none 0 0] 132)) from
        ⟨(qb_ok bb g m _).below qc (below_one wc _), sc0, tc.trans (Turn.of_below (below_one wc _)), fun hk => by have := LC _ hk; omega, tc.size, by rw [cell_alloc rfl]; rfl, by rw [cell_alloc rfl]; rfl, fun i => frozen_alloc rfl, World.ownsRow_nil _ _ _ _, fun k e => (by cases e), HHT.out.below (below_one wc _), AW.out⟩)
      have ED := Lib.hid (show reachF (f + 1) st s = (st.length, (edgesF (reachF f) (bodS s).length (bodS s) [] (st ++ [⟨s, false, []⟩])).2.set st.length ⟨s, finS s, (edgesF (reachF f) (bodS s).length (bodS s) [] (st ++ [⟨s, false, []⟩])).1⟩) from by conv => lhs; unfold reachF; rw [FD.out])
      clear hcut qc sc0 tc LC HHT d0 dc n1 n2 n3 n4 n5 n6 OWN AB MS2 TM2 T2 G2 BW HF FN FD hst nwf NM nz nzl QW
      go_upto_region 9 with fail
      generalize wc.alloc (.cells #[.bool false, .slice none 0 0] 132) = w4 at *
      obtain ⟨p, hp⟩ : ∃ p, wc.heap.size = p := ⟨_, rfl⟩
      rw [hp] at R0
      rw [hp]
      clear hp
      obtain ⟨zf, hzf⟩ : ∃ z, finS s = z := ⟨_, rfl⟩
      have HZF := Lib.hid hzf
      obtain ⟨R, hR⟩ : ∃ r, edgesF (reachF f) (bodS s).length (bodS s) [] (st ++ [⟨s, false, []⟩]) = r := ⟨_, rfl⟩
      rw [hR] at ED
      have HR := Lib.hid hR
      clear hzf hR
      go_cut [64] (fun u wd => u = .bool zf ∧ w4 = wd)
      case first =>
        rcases Nat.eq_zero_or_pos n with hn0 | hn0
        · subst hn0
          have hs0 : s = [] := List.eq_nil_of_length_eq_zero HN.out
          obtain rfl : zf = false := by rw [← HZF.out, hs0]; rfl
          clear hs0
          go_wp2_with fail
          go_meet
          exact ⟨rfl, rfl⟩
        · have hd1 : decide ((n : Int) > 0) = true := decide_eq_true (by omega)
          have hd2 : decide (0 < n) = true := decide_eq_true hn0
          have hih := R0.out.hl
          rw [HN.out] at hih
          obtain ⟨b, o, rfl, hcc⟩ := hih.at hn0
          have x0 := hcc 0 hn0
          obtain ⟨t, ht⟩ : ∃ t, s.getD 0 ByteArray.empty = t := ⟨_, rfl⟩
          rw [ht, Nat.add_zero] at x0
          have hni : (0 : Int) < (n : Int) := by omega
          have hzt : t.toList.isEmpty = zf := by
            rw [← HZF.out]
            have hs2 : s.head? = some t := by
              have hsl := HN.out
              cases hs3 : s with
              | nil => rw [hs3] at hsl; simp at hsl; omega
              | cons t' l' => rw [hs3] at ht; simp at ht; simp [ht]
            unfold finS
            rw [hs2, Bool.eq_iff_iff]
            simp only [decide_eq_true_eq, List.isEmpty_iff]
            constructor
            · intro h; rw [(tx_nil t).2 h]
            · intro h; exact (tx_nil t).1 (by injection h)
          have hzt2 : (t.toList == []) = zf := by rw [← hzt]; cases t.toList <;> rfl
          clear hcc hih ht
          go_wp2_with fail
          go_meet
          exact ⟨by first | rfl | rw [hzt] | rw [hzt2], rfl⟩
      case rest =>
        obtain ⟨rfl, rfl⟩ := hcut
        go_upto_if 64 with fail
        go_cut [1] (fun v wd => ∃ sa sc, v = .slice sa (bodS s).length sc ∧ Hid ((bodS s).length ≤ sc) ∧ Hid (RL bb g m w S p zf (st ++ [⟨s, false, []⟩]) none 0 [] sa (bodS s) Sc wd))
        case first =>
          cases zf
          · have hbs : bodS s = s := by unfold bodS; rw [HZF.out]; rfl
            have HBS := Lib.hid hbs
            clear hbs
            go_wp2_with fail
            go_meet
            exact ⟨a, cap, by rw [HBS.out, HN.out], Lib.hid (by rw [HBS.out, HN.out]; exact hc), Lib.hid (by rw [HBS.out]; exact R0.out)⟩
          · obtain ⟨l, hsl⟩ : ∃ l, s = ⟨#[]⟩ :: l := by
              have h := HZF.out
              unfold finS at h
              have h2 := of_decide_eq_true h
              cases s with
              | nil => simp at h2
              | cons t l => simp at h2; exact ⟨l, by rw [h2]⟩
            have hbs : bodS s = l := by unfold bodS; rw [HZF.out, hsl]; rfl
            obtain ⟨k, rfl⟩ : ∃ k, n = k + 1 := ⟨l.length, by rw [← HN.out, hsl]; rfl⟩
            have hlk : l.length = k := by have := HN.out; rw [hsl] at this; simpa using this
            obtain ⟨c, rfl⟩ : ∃ c, cap = c + 1 := ⟨cap - 1, by omega⟩
            have hih := R0.out.hl
            rw [HN.out] at hih
            obtain ⟨b, o, rfl, hcc⟩ := hih.at (by omega)
            obtain ⟨o', hA, hAH⟩ : ∃ o', (if c = 0 then some (⟨b, o, none⟩ : Addr) else some ⟨b, o + 1, none⟩) = some ⟨b, o', none⟩ ∧ Hid (HoldsT w4 (some ⟨b, o', none⟩) k l) := by
              by_cases hc0 : c = 0
              · have hk0 : k = 0 := by omega
                subst hk0
                have hl0 : l = [] := List.eq_nil_of_length_eq_zero hlk
                exact ⟨o, by rw [if_pos hc0], Lib.hid (by rw [hl0]; exact HoldsT.nil _ _)⟩
              · refine ⟨o + 1, by rw [if_neg hc0], Lib.hid (HoldsT.of hlk (fun i hi => ?_))⟩
                have h := hcc (i + 1) (by omega)
                rw [hsl, List.getD_cons_succ] at h
                rw [show o + 1 + i = o + (i + 1) by omega]
                exact h
            have HBS := Lib.hid hbs; have HLK := Lib.hid hlk
            have z0 := R0.out.c0
            have zf0 := R0.out.fr 0
            have i1 : (1 : Int) ≤ (k : Int) + 1 := by omega
            have i2 : (1 : Int) ≤ ((k + 1 : Nat) : Int) := by omega
            have RN := Lib.hid (show RL bb g m w S p true (st ++ [⟨s, false, []⟩]) none 0 [] (some ⟨b, o', none⟩) l Sc (w4.setCell ⟨p, 0, none⟩ (.bool true)) from
              R0.out.flag (b := true) (by rw [hlk]; exact hAH.out) (fun h0 fb fo e => by injection e with e; injection e with e1 e2; subst e1; exact R0.out.la (by rw [hsl]; simp) b o rfl))
            clear hcc hih hbs hlk hsl
            go_wp2_with fail
            go_meet
            exact ⟨some ⟨b, o', none⟩, c, by rw [HBS.out, HLK.out], Lib.hid (by rw [HBS.out, HLK.out]; omega), Lib.hid (by rw [HBS.out]; exact RN.out)⟩
        case rest =>
          obtain ⟨sa, sc, rfl, hsc, hR1⟩ := hcut
          rename World => w5
          have hok : OkL f (bodS s) ∧ ∀ t ∈ bodS s, 0 < t.size := ⟨OK.out.bod, bod_pos OK.out.ord⟩
          have HOK := Lib.hid hok
          have hbl : (bodS s).length ≤ 100 := hok.1.n
          have HWT := Lib.hid (show (st ++ [(⟨s, false, []⟩ : GN)]).length + wtS (bodS s) ≤ 1000000 from by rw [List.length_append, List.length_singleton]; have := wt_bod s; omega)
          have HLT := Lib.hid (show st.length < (st ++ [(⟨s, false, []⟩ : GN)]).length from by rw [List.length_append, List.length_singleton]; omega)
          clear hok
          go_wp2_with fail
          go_loopw [1] (fun v wr => ∃ (k : Nat) (l : List Tx) (es : List EdP) (st1 : List GN) (S1 : Nat → Prop) (ea : Option Addr) (ec : Nat) (sa : Option Addr) (sc : Nat), v = .slice sa l.length sc ∧ l.length ≤ k ∧ es.length + k ≤ 100 ∧ Hid (l.length ≤ sc) ∧ Hid (edgesF (reachF f) k l es st1 = R) ∧ Hid (OkL f l ∧ ∀ t ∈ l, 0 < t.size) ∧ Hid (st1.length + wtS l ≤ 1000000) ∧ Hid (st.length < st1.length) ∧ Hid ((st1.getD st.length gn0).rests = s) ∧ Hid (RL bb g m w S p zf st1 ea ec es sa l S1 wr)) (fun v _ => sliceLenG v)
          case atStart => exact ⟨(bodS s).length, bodS s, [], _, Sc, none, 0, sa, sc, rfl, Nat.le_refl _, by simpa using hbl, hsc, HR, HOK, HWT, HLT, Lib.hid (by simp [List.getD_eq_getElem?_getD]), hR1⟩
          case round =>
            clear hR1 hsc HOK HWT HLT hbl
            obtain ⟨k, l, es, st1, S1, ea, ec, sa, sc, rfl, hlk, hek, hsc, hE, hOK, hWT, hLT, hRS, hRL⟩ := hrel
            rename World => wr
            by_cases hl0 : l = []
            · subst hl0
              have hRR : R = (es, st1) := by
                rw [← hE.out]
                cases k with
                | zero => rfl
                | succ k => unfold edgesF; rw [if_pos rfl]
              obtain ⟨na1, nc1, NL1, q, hB, hqa, ⟨vq0, hq0⟩, ⟨vq1, hq1⟩, hqf, hqn, hPO⟩ := hRL.out.target st.length hLT.out s hRS.out
              have c0 := hB.c0
              have gc := hB.G.c
              have p0 := hRL.out.c0
              have p1 := hRL.out.c1
              have qb : q ≠ bb := (hB.n4 q hqa).2
              have qg : q ≠ g := (hB.G.sn q hqa).2
              have qp : q ≠ p := hqn
              have hnl1 : NL1.length = st1.length := by have := congrArg List.length hB.eq; simpa using this
              rw [hnl1] at gc
              subst hqa
              have f1 := hqf (st.length * 2)
              have f2 := hqf (st.length * 2 + 1)
              have i1 : (0 : Int) ≤ (st.length : Int) := by omega
              have i2 : (st.length : Int) < (st1.length : Int) := by have := hLT.out; omega
              have FIN := Lib.hid hPO
              have HRR := Lib.hid hRR
              clear hB hnl1 hqf hPO hRR hqn
              go_upto_region 16 with fail
              go_region_held3 (fun w' => w'.cell? ⟨bb, 0, none⟩ = some (.pointer (some ⟨g, 0, none⟩)) ∧ w'.cell? ⟨g, 0, none⟩ = some (.slice (some ⟨q, 0, none⟩) st1.length nc1) ∧ w'.cell? ⟨p, 0, none⟩ = some (.bool zf) ∧ w'.cell? ⟨p, 1, none⟩ = some (.slice ea es.length ec))
                (first | assumption | exact ⟨c0, gc, p0, p1⟩ | exact g4_store qb qg qp ⟨c0, gc, p0, p1⟩)
                (fail)
              all_goals
                go_wp2_with fail
                go_ret
                rw [ED.out, HRR.out, HZF.out]
                exact ⟨rfl, FIN.out.more (qb_ok bb g m _) (Below.refl _ _).drew⟩
            · have hpos : 0 < l.length := by cases l with
                | nil => exact absurd rfl hl0
                | cons t l => simp
              obtain ⟨k, rfl⟩ : ∃ k', k = k' + 1 := ⟨k - 1, by omega⟩
              obtain ⟨f', rfl⟩ : ∃ f', f = f' + 1 := by
                refine ⟨f - 1, ?_⟩
                have hm : l.getD 0 ByteArray.empty ∈ l := getD_tx hpos
                have h1 := rst_len (hOK.out.1.lo _ hm) (hOK.out.2 _ hm)
                have h2 := hOK.out.1.hi _ hm
                omega
              have C := Lib.hid (IHH.out f' rfl)
              have hl100 := hOK.out.1.n
              have CF := Lib.hid (follow_any sa l.length sc l wr hRL.out.hl hpos hl100 hOK.out.2 hOK.out.1.sz)
              have HFL := Lib.hid (fol_len l hl0)
              have HWF := Lib.hid (wt_fol hl0 hOK.out.1.lo hOK.out.2)
              have OKF := Lib.hid (hOK.out.1.fol hOK.out.2)
              obtain ⟨⟨lab, rs⟩, hfo⟩ : ∃ r, folS l = r := ⟨_, rfl⟩
              have hEE := hE.out
              unfold edgesF at hEE
              rw [if_neg hl0, hfo] at hEE
              unfold FolP at CF
              rw [hfo] at CF HFL HWF OKF
              obtain ⟨⟨ix, st2⟩, hre⟩ : ∃ r, reachF (f' + 1) st1 rs = r := ⟨_, rfl⟩
              simp only at hEE
              rw [hre] at hEE
              have HE := Lib.hid hEE
              have HRE := Lib.hid hre
              have RLN := Lib.hid (reach_len f' st1 rs OKF.out)
              rw [hre] at RLN
              have hpi : (0 : Int) < (l.length : Int) := by omega
              have hd1 : decide ((l.length : Int) > 0) = true := decide_eq_true (by omega)
              have hd2 : decide (0 < l.length) = true := decide_eq_true hpos
              clear hEE hre hE hfo
              go_wp2_with fail
              refine CF.out.mono ?_
              rintro e w6 ⟨fa, fc, rfl, hfo, hb6⟩
              simp only at hfo ⊢
              have R6 := Lib.hid (hRL.out.more hb6)
              have FA := Lib.hid hfo
              have FW := Lib.hid (show Away w6.drew S1 fa rs.length from fun h0 fb fo e => by
                have h1 := own_blockG hfo e
                exact ⟨fun hk => by have := hRL.out.qlt fb hk; omega, h1.2⟩)
              have C6 := Lib.hid (C.out st1 rs fa fc S1 w6.drew ((qb_ok bb g m st1).below R6.out.q (Below.refl _ _).drew) OKF.out ((HoldsT.own FA.out).below (Below.refl _ _).drew) FW.out (owns_none FA.out).2 (by have := hWT.out; have := HWF.out; omega))
              rw [HRE.out] at C6
              clear hfo hb6 CF C FW
              have R6d := Lib.hid (R6.out.more (Below.refl w6.heap.size w6).drew)
              have y0 := R6d.out.c1
              have hes : es.length ≤ 100 := by omega
              go_upto_region 14 with fail
              go_cut [] (fun wd => Hid (∃ S2 ea2 ec2, RL bb g m w S p zf st2 ea2 ec2 (es ++ [⟨(lab : Int), (ix : Int)⟩]) sa l S2 wd))
              case first =>
                go_region_law
                  (first
                    | (refine step_append_lies _ (by rfl) _ _ _ (by rfl) w.heap.size 116 j0 _ 2 16 Tryz.underlying112 hj hy0 hy1 hy2 rfl (by omega) (.slice ea es.length ec) es.length (edsV es) (by first | rfl | (simp [Act.eval]; done) | simp [Act.eval, Act.put]) (hR7.o.alloc _) ⟨w7.heap.size, 0, none⟩ 1 1 [.int .i32 (lab : Int), .int .i64 (ix : Int)] (by first | rfl | (simp [Act.eval]; done) | simp [Act.eval, Act.put]) (by rfl) (World.news_of_block (cs := #[.int .i32 (lab : Int), .int .i64 (ix : Int)]) (t := 116) (fr := (0, 0)) (heap_alloc_new w7 _)) (by simp [Value.oneCell']) (by omega) (by unfold maxLen; omega) (by omega) (by have := hR7.t.size; simp; omega) (w7.heap.size + 1) (by simp) ?_; intro g3 c3 w8 hown8 hgrow8 hat8 hlt8; obtain ⟨x0, x1⟩ := hR7.keep hgrow8)
                    | (go_simp; go_at_call 69; (with_reducible refine C6.out.mono ?_); rintro e w7 ⟨rfl, hPO⟩; obtain ⟨S2, hR7⟩ := R6d.out.step hPO; have y1 := hR7.c1; have y3 := fun o => ((below_one w7 o).cell (p := ⟨p, 1, none⟩) (lt_of_cell y1)).trans y1))
                all_goals
                  have RN := Lib.hid (hR7.edge (x := ⟨(lab : Int), (ix : Int)⟩) hown8 hgrow8 (hat8.imp id (fun e => by simp; exact e)))
                  clear hown8 hgrow8 hat8 hlt8 x0 x1 y1 y3
                  go_wp2_with fail
                  go_meet
                  exact Lib.hid ⟨S2, _, _, RN.out⟩
              case rest =>
                obtain ⟨S2, ea2, ec2, hR8⟩ := hcut.out
                rename World => w9
                have R8 := Lib.hid hR8
                clear hcut hR8 R6 R6d C6 y0 FA
                obtain ⟨b, o, rfl, hcc⟩ := R8.out.hl.at hpos
                obtain ⟨d, hd⟩ : ∃ d, rs.length = d := ⟨_, rfl⟩
                rw [hd] at HFL HWF HE
                rw [hd]
                clear hd
                have hd1' := HFL.out.1
                have hd2' := HFL.out.2
                have hsc' := hsc.out
                obtain ⟨o', hA, hAH⟩ : ∃ o', (if sc = d then some (⟨b, o, none⟩ : Addr) else some ⟨b, o + d, none⟩) = some ⟨b, o', none⟩ ∧ Hid (HoldsT w9 (some ⟨b, o', none⟩) (l.drop d).length (l.drop d)) := by
                  by_cases hc0 : sc = d
                  · have hl0' : l.drop d = [] := List.drop_eq_nil_of_le (by omega)
                    exact ⟨o, by rw [if_pos hc0], Lib.hid (by rw [hl0']; exact HoldsT.nil _ _)⟩
                  · refine ⟨o + d, by rw [if_neg hc0], Lib.hid (HoldsT.of rfl (fun i hi => ?_))⟩
                    rw [List.length_drop] at hi
                    have h := hcc (d + i) (by omega)
                    rw [show o + d + i = o + (d + i) by omega, h]
                    congr 2
                    simp [List.getD_eq_getElem?_getD]
                have RN := Lib.hid (R8.out.other hAH.out (fun h0 fb fo e => by injection e with e; injection e with e1 e2; subst e1; exact R8.out.la hpos b o rfl))
                have i1 : (0 : Int) ≤ (d : Int) := by omega
                have i2 : (d : Int) ≤ (l.length : Int) := by omega
                have ldr : l.length - d = (l.drop d).length := by rw [List.length_drop]
                have LDR := Lib.hid ldr
                clear hcc ldr
                go_wp2_with fail
                go_roundw
                case rel => exact ⟨k, l.drop d, es ++ [⟨(lab : Int), (ix : Int)⟩], st2, S2, ea2, ec2, some ⟨b, o', none⟩, sc - d, by rw [LDR.out], by rw [List.length_drop]; omega, by simp; omega, Lib.hid (by rw [List.length_drop]; omega), HE, Lib.hid ⟨hOK.out.1.drop _, fun t ht => hOK.out.2 t (List.mem_of_mem_drop ht)⟩, Lib.hid (by have := hWT.out; have := HWF.out; have := RLN.out; omega), Lib.hid (by have := hLT.out; have := RLN.out; omega), Lib.hid (by rw [← hRS.out]; have := reach_rests f' st1 rs OKF.out st.length hLT.out; rw [HRE.out] at this; exact this), RN⟩
                case measure => simp only [sliceLenG]; rw [LDR.out, List.length_drop]; omega
theorem reach_any (bb g m : Nat) : ∀ f, ReachAny bb g m f := by
  intro f
  induction f with
  | zero => exact reach_step bb g m 0 (fun f' e => by omega)
  | succ f ih => exact reach_step bb g m (f + 1) (fun f' e => by obtain rfl : f = f' := by omega
                                                                 exact ih)
end Go.Proofs.YtbbholdadgjelaaGreat
/- graph: Build, and what is asked of a graph -/
namespace Go.Proofs.YtbbholdadgjelaaGreat
open Go.RowKit Go.Maps
set_option linter.unusedVariables false
set_option maxRecDepth 20000
/-- the nodes of the words -/
def grS (ts : List Tx) : List GN := (reachF 13 [] ts).2
theorem ok_good {ts : List Tx} (h : goodV ts = 0) (hsz : ∀ t ∈ ts, t.size ≤ 100) : OkL 12 ts := by
  obtain ⟨h1, h2, h3⟩ := goodV_zero h
  exact ⟨h3, fun t ht => by have := (h2 t ht).1; omega, fun t ht => (h2 t ht).2, by omega, hsz⟩
theorem wt_good : ∀ (ts : List Tx), (∀ t ∈ ts, lenS t ≤ 12) → wtS ts ≤ ts.length * 12
  | [], _ => by simp [wtS]
  | t :: l, h => by
    have h1 := wt_good l (fun u hu => h u (by simp [hu]))
    have h2 := h t (by simp)
    simp only [wtS, List.length_cons]
    omega
def BuildP (w : World) (ts : List Tx) (e : Ending) (w' : World) : Prop := ∃ g S, e = .returned (.tuple #[.pointer (some ⟨g, 0, none⟩), .int .i64 0]) ∧ GAt g (grS ts) w' S ∧ (∀ k, S k → w.heap.size ≤ k) ∧ Below w.heap.size w w'
theorem build_bad (a : Option Addr) (n cap : Nat) (ts : List Tx) (v : Int) (w : World) (hh : HoldsT w a n ts) (hn : n ≤ 9223372036854775807) (hs : ∀ t ∈ ts, t.size ≤ 9223372036854775807) (hv : goodV ts = v) (h0 : v ≠ 0) :
    Calls Tryz.prog 56 #[.slice a n cap] w fun e w' => e = .returned (.tuple #[.pointer none, .int .i64 v]) ∧ Below w.heap.size w w' := by
  have CG := Lib.hid (good_any' a n cap ts w hh hn hs)
  rw [hv] at CG
  have hne : (v != 0) = true := by simpa using h0
  clear hh hs hv h0
  go_enter Tryz.func56, Tryz.ntmps56
  go_wp2_with fail
  refine CG.out.mono ?_
  rintro e w1 ⟨rfl, hb⟩
  have B1 := Lib.hid hb
  clear hb
  go_wp2_with fail
  go_ret2
  exact ⟨rfl, B1.out⟩
theorem qb_start (w1 : World) (t1 t2 : TypeId) : QB (w1.heap.size + 1 + 1) w1.heap.size (w1.heap.size + 1) [] (((w1.alloc (Obj.cells #[Value.slice none 0 0] t1)).alloc (Obj.map #[] 0)).alloc (Obj.cells #[Value.pointer (some { block := w1.heap.size, off := 0 }), Value.map (some (w1.heap.size + 1))] t2)) (fun k => w1.heap.size ≤ k ∧ k < w1.heap.size + 3) := by
  have hm := mapS_made (w1.alloc (Obj.cells #[Value.slice none 0 0] t1))
  rw [show (w1.alloc (Obj.cells #[Value.slice none 0 0] t1)).heap.size = w1.heap.size + 1 from by simp] at hm
  have hb := Below.heap_alloc ((w1.alloc (Obj.cells #[Value.slice none 0 0] t1)).alloc (Obj.map #[] 0)) (Obj.cells #[Value.pointer (some { block := w1.heap.size, off := 0 }), Value.map (some (w1.heap.size + 1))] t2)
  have hc := Below.heap_alloc (w1.alloc (Obj.cells #[Value.slice none 0 0] t1)) (Obj.map #[] 0)
  have b0 := (hb w1.heap.size (by simp; omega)).trans (hc w1.heap.size (by simp))
  have b1 := hb (w1.heap.size + 1) (by simp)
  refine ⟨none, 0, [], ⟨⟨?_, fun i => ?_, World.ownsRow_nil _ 0 _ 2, fun x hx => by simp at hx, ⟨by omega, by omega⟩, fun q hq => by (cases hq), fun k hk => ?_⟩, rfl, ?_, ?_, ⟨fun _ => none, hm.block b1, fun l _ => rfl⟩, ⟨by omega, by omega⟩, ⟨by omega, by omega⟩, by omega, by omega, by omega, fun q hq => by (cases hq), fun x hx => by simp at hx⟩⟩
  · rw [World.cell?_of_block (w := w1.alloc (Obj.cells #[Value.slice none 0 0] t1)) b0, World.cell?_alloc_at _ _ _ _ rfl]; rfl
  · rw [World.frozen?_of_block (w := w1.alloc (Obj.cells #[Value.slice none 0 0] t1)) b0, World.frozen?_alloc_at _ _ _ _ rfl]
  · simp; omega
  · rw [World.cell?_alloc_at _ _ _ _ (by simp)]; rfl
  · rw [World.cell?_alloc_at _ _ _ _ (by simp)]; rfl
set_option maxHeartbeats 1600000 in
theorem build_good (a : Option Addr) (n cap : Nat) (ts : List Tx) (w : World) (hh : HoldsT w a n ts) (hc : n ≤ cap) (hn : n ≤ 9223372036854775807) (hs : ∀ t ∈ ts, t.size ≤ 100) (hv : goodV ts = 0) :
    Calls Tryz.prog 56 #[.slice a n cap] w (BuildP w ts) := by
  have CG := Lib.hid (good_any' a n cap ts w hh hn (fun t ht => by have := hs t ht; omega))
  rw [hv] at CG
  have OK := Lib.hid (ok_good hv hs)
  have HH := Lib.hid hh
  have hl := hh.len
  have HL := Lib.hid hl
  have hmm := @run_makeMap Tryz.prog
  clear hh hs hv hl
  go_enter Tryz.func56, Tryz.ntmps56
  go_wp2_with fail
  refine CG.out.mono ?_
  rintro e w1 ⟨rfl, hb⟩
  have B1 := Lib.hid hb
  clear hb CG
  go_upto_region 5 with fail
  have Q0 := Lib.hid (qb_start w1 107 110)
  obtain ⟨w2, hw2⟩ : ∃ w2, (((w1.alloc (Obj.cells #[Value.slice none 0 0] 107)).alloc (Obj.map #[] 0)).alloc (Obj.cells #[Value.pointer (some { block := w1.heap.size, off := 0 }), Value.map (some (w1.heap.size + 1))] 110)) = w2 := ⟨_, rfl⟩
  have B2 := Lib.hid (show Below w.heap.size w w2 from by
    rw [← hw2]
    have z1 := B1.out.size
    exact B1.out.trans (((below_one _ _).mono z1).trans (((below_one _ _).mono (by simp; omega)).trans ((below_one _ _).mono (by simp; omega)))))
  have hz2 : w2.heap.size = w1.heap.size + 3 := by rw [← hw2]; simp
  rw [hw2] at Q0
  rw [hw2]
  have CR := Lib.hid (reach_any (w1.heap.size + 1 + 1) w1.heap.size (w1.heap.size + 1) 12 [] ts a cap _ w2 Q0.out OK.out (HL.out.symm ▸ (HH.out.below B2.out)) (fun h0 fb fo e => by
    rw [HL.out] at h0
    obtain ⟨b, o, e2, hc2⟩ := HH.out.at h0
    have h3 := lt_of_cell (hc2 0 h0)
    rw [e2] at e
    injection e with e; injection e with e4 e5
    have z1 := B1.out.size
    exact ⟨by omega, by omega⟩) (by rw [HL.out]; exact hc) (by
    have h3 := wt_good ts OK.out.hi
    have h4 := OK.out.n
    simp only [List.length_nil]; omega))
  rw [HL.out] at CR
  clear hw2 Q0
  go_wp2_with fail
  refine CR.out.mono ?_
  rintro e w3 ⟨rfl, S3, ⟨na, nc, NL, hB⟩, hs3, ht3⟩
  have B := Lib.hid hB; have T3 := Lib.hid ht3; have S3H := Lib.hid hs3
  have c0 := hB.c0
  have z1 := B1.out.size
  clear hB ht3 hs3 CR
  go_wp2_with fail
  go_ret2
  refine ⟨_, S3, rfl, ⟨na, nc, NL, B.out.G, B.out.eq⟩, fun k hk => ?_, B2.out.trans (T3.out.below (fun k hk => by omega) (by omega))⟩
  rcases S3H.out k hk with x | x
  · omega
  · omega
end Go.Proofs.YtbbholdadgjelaaGreat
/- graph: has, Nodes, Final, Edges, Next -/
namespace Go.Proofs.YtbbholdadgjelaaGreat
open Go.RowKit
set_option linter.unusedVariables false
set_option maxRecDepth 20000
theorem map_eqG : ∀ (NL : List NM) (st : List GN), NL.map nmP = st.map gnP → NL.length = st.length ∧ ∀ n, n < st.length → (NL.getD n nm0).fin = (st.getD n gn0).final ∧ (NL.getD n nm0).es = (st.getD n gn0).edges
  | [], [], _ => ⟨rfl, fun n h => by simp at h⟩
  | [], g :: st, h => by simp at h
  | x :: NL, [], h => by simp at h
  | x :: NL, g :: st, h => by
    simp only [List.map_cons, List.cons.injEq] at h
    obtain ⟨h1, h2⟩ := map_eqG NL st h.2
    refine ⟨by simp [h1], fun n hn => ?_⟩
    have h3 := h.1
    unfold nmP gnP at h3
    cases n with
    | zero => exact ⟨congrArg Prod.fst h3, congrArg Prod.snd h3⟩
    | succ n => exact h2 n (by simpa using hn)
theorem GAt.len {g : Nat} {st : List GN} {w : World} {S : Nat → Prop} (h : GAt g st w S) : ∃ na nc, w.cell? ⟨g, 0, none⟩ = some (.slice na st.length nc) := by
  obtain ⟨na, nc, NL, G, e⟩ := h
  have := G.c
  rw [(map_eqG _ _ e).1] at this
  exact ⟨na, nc, this⟩
theorem GAt.node {g : Nat} {st : List GN} {w : World} {S : Nat → Prop} (h : GAt g st w S) {n : Nat} (hn : n < st.length) : ∃ q nc ea ec, w.cell? ⟨g, 0, none⟩ = some (.slice (some ⟨q, 0, none⟩) st.length nc) ∧ w.cell? ⟨q, n * 2, none⟩ = some (.bool (st.getD n gn0).final) ∧ w.cell? ⟨q, n * 2 + 1, none⟩ = some (.slice ea (st.getD n gn0).edges.length ec) ∧ HoldsEd w ea (st.getD n gn0).edges.length (st.getD n gn0).edges ∧ (ea = none → (st.getD n gn0).edges.length = 0 ∧ ec = 0) := by
  obtain ⟨na, nc, NL, G, e⟩ := h
  obtain ⟨e1, e2⟩ := map_eqG _ _ e
  have c := G.c
  obtain ⟨q, rfl, c0, c1⟩ := G.at (i := n) (by omega)
  obtain ⟨e3, e4⟩ := e2 n hn
  rw [e1] at c
  rw [e3] at c0
  have ei := G.e _ (mem_nm (show n < NL.length by omega))
  unfold EdIn at ei
  rw [e4] at c1 ei
  exact ⟨q, nc, _, _, c, c0, c1, ei.1, ei.2.1⟩
def hasG (st : List GN) (n : Int) : Bool := decide (0 ≤ n ∧ n < (st.length : Int))
theorem hasG_no {st : List GN} {n : Int} (h : hasG st n = false) : n < 0 ∨ (st.length : Int) ≤ n := by
  simp only [hasG, decide_eq_false_iff_not] at h; omega
theorem hasG_yes {st : List GN} {n : Int} (h : hasG st n = true) : ∃ k : Nat, n = k ∧ k < st.length := by
  simp only [hasG, decide_eq_true_eq] at h
  exact ⟨n.toNat, by omega, by omega⟩
theorem gHas_nil (n : Int) (w : World) : Calls Tryz.prog 90 #[.pointer none, .int .i64 n] w fun e w' => e = .returned (.bool false) ∧ w = w' := by
  go_enter Tryz.func90, Tryz.ntmps90
  go_wp2_with fail
  go_ret
  exact ⟨rfl, rfl⟩
theorem gHas_any (g : Nat) (st : List GN) (S : Nat → Prop) (n : Int) (w : World) (h : GAt g st w S) : Calls Tryz.prog 90 #[.pointer (some ⟨g, 0, none⟩), .int .i64 n] w fun e w' => e = .returned (.bool (hasG st n)) ∧ w = w' := by
  obtain ⟨na, nc, c⟩ := h.len
  by_cases h0 : n < 0
  · have d0 : decide (n ≥ 0) = false := decide_eq_false (by omega)
    have e : hasG st n = false := decide_eq_false (by omega)
    rw [e]
    clear e
    go_enter Tryz.func90, Tryz.ntmps90
    go_wp2_with fail
    go_ret
    exact ⟨rfl, rfl⟩
  · have d0 : decide (n ≥ 0) = true := decide_eq_true (by omega)
    have e : hasG st n = decide (n < (st.length : Int)) := by unfold hasG; congr 1; simp; omega
    rw [e]
    clear e
    go_enter Tryz.func90, Tryz.ntmps90
    go_wp2_with fail
    go_ret
    exact ⟨rfl, rfl⟩
theorem gNodes_nil (w : World) : Calls Tryz.prog 72 #[.pointer none] w fun e w' => e = .returned (.int .i64 0) ∧ w = w' := by
  go_enter Tryz.func72, Tryz.ntmps72
  go_wp2_with fail
  go_ret
  exact ⟨rfl, rfl⟩
theorem gNodes_any (g : Nat) (st : List GN) (S : Nat → Prop) (w : World) (h : GAt g st w S) : Calls Tryz.prog 72 #[.pointer (some ⟨g, 0, none⟩)] w fun e w' => e = .returned (.int .i64 st.length) ∧ w = w' := by
  obtain ⟨na, nc, c⟩ := h.len
  go_enter Tryz.func72, Tryz.ntmps72
  go_wp2_with fail
  go_ret
  exact ⟨rfl, rfl⟩
def finG (st : List GN) (n : Int) : Bool := hasG st n && (st.getD n.toNat gn0).final
theorem gFinal_nil (n : Int) (w : World) : Calls Tryz.prog 75 #[.pointer none, .int .i64 n] w fun e w' => e = .returned (.bool false) ∧ w = w' := by
  have CH := gHas_nil n w
  go_enter Tryz.func75, Tryz.ntmps75
  go_wp2_with fail
  refine CH.mono ?_
  rintro e w1 ⟨rfl, rfl⟩
  go_wp2_with fail
  go_ret
  exact ⟨rfl, rfl⟩
theorem gFinal_any (g : Nat) (st : List GN) (S : Nat → Prop) (n : Int) (w : World) (h : GAt g st w S) : Calls Tryz.prog 75 #[.pointer (some ⟨g, 0, none⟩), .int .i64 n] w fun e w' => e = .returned (.bool (finG st n)) ∧ w = w' := by
  have CH := gHas_any g st S n w h
  unfold finG
  cases hb : hasG st n with
  | false =>
    rw [hb] at CH
    go_enter Tryz.func75, Tryz.ntmps75
    go_wp2_with fail
    refine CH.mono ?_
    rintro e w1 ⟨rfl, rfl⟩
    go_wp2_with fail
    go_ret
    exact ⟨rfl, rfl⟩
  | true =>
    rw [hb] at CH
    obtain ⟨k, rfl, hk⟩ := hasG_yes hb
    obtain ⟨q, nc, ea, ec, c0, c1, c2, -, -⟩ := h.node hk
    have i1 : (0 : Int) ≤ (k : Int) := by omega
    have i2 : (k : Int) < (st.length : Int) := by omega
    have e : (k : Int).toNat = k := by omega
    rw [e, Bool.true_and]
    obtain ⟨fb, hfb⟩ : ∃ b, (st.getD k gn0).final = b := ⟨_, rfl⟩
    rw [hfb] at c1 ⊢
    clear e c2 hfb
    go_enter Tryz.func75, Tryz.ntmps75
    go_wp2_with fail
    refine CH.mono ?_
    rintro e w1 ⟨rfl, rfl⟩
    go_wp2_with fail
    go_ret
    exact ⟨rfl, rfl⟩
def edgesG (st : List GN) (n : Int) : List EdP := if hasG st n then (st.getD n.toNat gn0).edges else []
def RetEd (w : World) (es : List EdP) (e : Ending) (w' : World) : Prop := ∃ a c, e = .returned (.slice a es.length c) ∧ w'.ownsRow w.heap.size 116 2 (.slice a es.length c) es.length (edsV es) ∧ Below w.heap.size w w'
theorem retEd_own {w w' : World} {a : Option Addr} {c n : Nat} {ys : List EdP} (hn : ys.length = n) (hh : w'.ownsRow w.heap.size 116 2 (.slice a n c) n (edsV ys)) (hb : Below w.heap.size w w') (v : Value) (hv : v = .slice a n c) : RetEd w ys (.returned v) w' := by
  subst hn hv
  exact ⟨a, c, rfl, hh, hb⟩
theorem cloneEd_any (a : Option Addr) (n cap : Nat) (l : List EdP) (w : World) (hh : HoldsEd w a n l) (hnil : a = none → n = 0 ∧ cap = 0) (hn : n ≤ 50000) :
    Calls Tryz.prog 91 #[.slice a n cap] w (RetEd w l) := by
  obtain ⟨i0, hi, hz0, hz1, hz2⟩ := info_parts edgeG_info
  have hll := hh.len
  cases a with
  | none =>
    obtain ⟨rfl, rfl⟩ := hnil rfl
    obtain rfl : l = [] := List.eq_nil_of_length_eq_zero hll
    have he := fun w => Lib.run_eql_slice_nil (P := Tryz.prog) w 112 116 none 0 0 0 0 Tryz.underlying112
    go_enter Tryz.func91, Tryz.ntmps91
    go_wp2_with fail
    go_ret
    exact retEd_own rfl (World.ownsRow_nil _ _ _ _) (Below.refl _ _) _ rfl
  | some ad =>
    have hnews : ∀ ad', (some ad : Option Addr) = some ad' → ∀ j u, (edsV l)[j]? = some u → (w.alloc (.cells #[] 116)).cell? (ad'.add j) = some u :=
      HoldsEd.cellsAny hh (World.grownBy_alloc w _ none)
    have HN := Lib.hid hnews
    have hown : (w.alloc (.cells #[] 116)).ownsRow w.heap.size 116 2 (.slice (some ⟨w.heap.size, 0, none⟩) 0 0) 0 [] := World.ownsRow_lit w #[] 0 (Nat.le_refl _) (by unfold maxLen; omega) rfl
    have HO := Lib.hid hown
    clear hnews hown hh
    have he := fun w => Lib.run_eql_slice_nil (P := Tryz.prog) w 112 116 (some ad) n cap 0 0 Tryz.underlying112
    go_enter Tryz.func91, Tryz.ntmps91
    go_wp2_with (at_builtin; refine wpList_append_any rfl (.tmp 5) (.tmp 6) 112 rfl w.heap.size 116 i0 _ 2 16 Tryz.underlying112 hi hz0 hz1 hz2 rfl (by decide) _ 0 [] rfl HO.out _ n cap (edsV l) rfl (some_none _) (by rw [edsV_len, hll]) HN.out (edsV_one _) (by unfold maxLen; omega) (by omega) (by simp) ?_; intro a3 c3 w3 hown3 hb3 hnil3)
    rw [Nat.zero_add, List.nil_append] at hown3
    go_ret
    exact retEd_own hll hown3 ((below_one w (.cells #[] 116)).trans (hb3)) _ (by simp)
theorem gEdges_nil (n : Int) (w : World) : Calls Tryz.prog 73 #[.pointer none, .int .i64 n] w fun e w' => e = .returned (.slice none 0 0) ∧ w = w' := by
  have CH := gHas_nil n w
  go_enter Tryz.func73, Tryz.ntmps73
  go_wp2_with fail
  refine CH.mono ?_
  rintro e w1 ⟨rfl, rfl⟩
  go_wp2_with fail
  go_ret
  exact ⟨rfl, rfl⟩
theorem gEdges_any (g : Nat) (st : List GN) (S : Nat → Prop) (n : Int) (w : World) (h : GAt g st w S) (hE : ∀ x ∈ st, x.edges.length ≤ 1000) : Calls Tryz.prog 73 #[.pointer (some ⟨g, 0, none⟩), .int .i64 n] w (RetEd w (edgesG st n)) := by
  have CH := gHas_any g st S n w h
  unfold edgesG
  cases hb : hasG st n with
  | false =>
    rw [hb] at CH
    rw [if_neg (by simp)]
    go_enter Tryz.func73, Tryz.ntmps73
    go_wp2_with fail
    refine CH.mono ?_
    rintro e w1 ⟨rfl, rfl⟩
    go_wp2_with fail
    go_ret
    exact retEd_own rfl (World.ownsRow_nil _ _ _ _) (Below.refl _ _) _ rfl
  | true =>
    rw [hb] at CH
    rw [if_pos rfl]
    obtain ⟨k, rfl, hk⟩ := hasG_yes hb
    obtain ⟨q, nc, ea, ec, c0, c1, c2, c3, c4⟩ := h.node hk
    have i1 : (0 : Int) ≤ (k : Int) := by omega
    have i2 : (k : Int) < (st.length : Int) := by omega
    have e : (k : Int).toNat = k := by omega
    have hx : st.getD k gn0 ∈ st := by rw [List.getD_eq_getElem?_getD, List.getElem?_eq_getElem hk]; simp
    have hle := hE _ hx
    rw [e]
    obtain ⟨es, hes⟩ : ∃ b, (st.getD k gn0).edges = b := ⟨_, rfl⟩
    rw [hes] at c2 c3 c4 hle ⊢
    have CC := Lib.hid (cloneEd_any ea es.length ec es w c3 c4 (by omega))
    clear e c1 hes hx c3 c4
    go_enter Tryz.func73, Tryz.ntmps73
    go_wp2_with fail
    refine CH.mono ?_
    rintro e w1 ⟨rfl, rfl⟩
    go_wp2_with fail
    refine CC.out.mono ?_
    rintro e w2 ⟨a, c, rfl, ho, hb2⟩
    go_wp2_with fail
    go_ret
    exact ⟨a, c, rfl, ho, hb2⟩
end Go.Proofs.YtbbholdadgjelaaGreat
/- pack: Encode, of the graph of any nodes -/
namespace Go.Proofs.YtbbholdadgjelaaGreat
open Go.RowKit
set_option linter.unusedVariables false
set_option maxRecDepth 20000
def edB (e : EdP) : List Nat := Cod.bytesOf (bitsV e.r) 4 ++ Cod.bytesOf (bitsV e.dst) 2
def finN (x : GN) : Nat := if x.final then 1 else 0
def ndB (x : GN) : List Nat := [finN x] ++ (Cod.bytesOf x.edges.length 2 ++ x.edges.flatMap edB)
def bodyB (st : List GN) : List Nat := [73, 78, 75, 49] ++ (Cod.bytesOf st.length 2 ++ st.flatMap ndB)
def imgB (st : List GN) : List Nat := sealB (bodyB st)
theorem edB_lt (e : EdP) : ∀ b ∈ edB e, b < 256 := fun b hb => by
  rcases List.mem_append.1 hb with hb | hb <;> exact Cod.bytesOf_lt _ _ b hb
theorem ndB_lt (x : GN) : ∀ b ∈ ndB x, b < 256 := fun b hb => by
  rcases List.mem_append.1 hb with hb | hb
  · have h1 : b = finN x := by simpa using hb
    rw [h1]; unfold finN; split <;> decide
  · rcases List.mem_append.1 hb with hb | hb
    · exact Cod.bytesOf_lt _ _ b hb
    · obtain ⟨e, -, he⟩ := List.mem_flatMap.1 hb
      exact edB_lt e b he
theorem bodyB_lt (st : List GN) : ∀ b ∈ bodyB st, b < 256 := fun b hb => by
  rcases List.mem_append.1 hb with hb | hb
  · simp at hb; omega
  · rcases List.mem_append.1 hb with hb | hb
    · exact Cod.bytesOf_lt _ _ b hb
    · obtain ⟨e, -, he⟩ := List.mem_flatMap.1 hb
      exact ndB_lt e b he
/-- an image, and no error -/
def RetE (w : World) (bs : List Nat) (e : Ending) (w' : World) : Prop :=
  ∃ a c, e = .returned (.tuple #[.slice a bs.length c, .int .i64 0]) ∧ w'.ownsRow w.heap.size 5 1 (.slice a bs.length c) bs.length (bytesV bs) ∧ Below w.heap.size w w' ∧ (a = none → bs.length = 0 ∧ c = 0)
theorem base_less9 {w : World} {B B' : Nat} {e : TypeId} {size n : Nat} {v : Value} {xs : List Value} (h : w.ownsRow B e size v n xs) (hB : B' ≤ B) : w.ownsRow B' e size v n xs := by
  obtain ⟨h1, h2⟩ := h
  refine ⟨h1, ?_⟩
  rcases h2 with h | ⟨g, cap, cur, hv, hge, r⟩
  · exact .inl h
  · exact .inr ⟨g, cap, cur, hv, Nat.le_trans hB hge, r⟩
theorem put9 (v : Int) (s : Nat) (hs : s ≤ 8) (w : World) : Calls Tryz.prog 71 #[.slice none 0 0, .int .i64 v, .int .i64 (s : Int)] w fun e w' => ∃ a c, e = .returned (.slice a s c) ∧ HoldsV w' a s (bytesV (Cod.bytesOf (bitsV v) s)) ∧ (a = none → s = 0 ∧ c = 0) ∧ Below w.heap.size w w' := by
  refine (put_any none 0 0 [] v (s : Int) w (holdsB_nil _ _) (fun _ => ⟨rfl, rfl⟩) (by omega)).mono ?_
  rintro e w' ⟨a, c, rfl, h1, h2, h3⟩
  have e1 : sizeV (s : Int) = s := by unfold sizeV; omega
  rw [e1, List.nil_append] at h1 h3 ⊢
  rw [Cod.bytesOf_length] at h1 h3 ⊢
  exact ⟨a, c, rfl, owns_holds h1, (owns_none h1).1, h2⟩
theorem getD_edges {st : List GN} {j : Nat} (h : j < st.length) : st.drop j = st.getD j gn0 :: st.drop (j + 1) := by
  rw [List.drop_eq_getElem_cons h, List.getD_eq_getElem?_getD, List.getElem?_eq_getElem h]; rfl
theorem drop_ed9 {es : List EdP} {j : Nat} (h : j < es.length) : es.drop j = es.getD j ed0 :: es.drop (j + 1) := by
  rw [List.drop_eq_getElem_cons h, List.getD_eq_getElem?_getD, List.getElem?_eq_getElem h]; rfl
/-- bytes that grow, beside edges that stay -/
structure OBK (w0 : World) (bs : List Nat) (a : Option Addr) (c : Nat) (ea : Option Addr) (es : List EdP) (w : World) : Prop where
  o : OB w0 bs a c w
  e : HoldsEd w ea es.length es
  d : ∀ g eb eo, a = some ⟨g, 0, none⟩ → ea = some ⟨eb, eo, none⟩ → 0 < es.length → g ≠ eb
theorem OBK.more {w0 w w' : World} {bs : List Nat} {a : Option Addr} {c : Nat} {ea : Option Addr} {es : List EdP} (h : OBK w0 bs a c ea es w) (hb : Below w.heap.size w w') : OBK w0 bs a c ea es w' := ⟨h.o.more hb, h.e.below hb, h.d⟩
theorem own_at9 {w : World} {B : Nat} {e : TypeId} {size n c k : Nat} {a : Option Addr} {xs : List Value} (h : w.ownsRow B e size (.slice a n c) n xs) (hk : (Value.slice a n c).ownBlock = some k) : a = some ⟨k, 0, none⟩ := by
  rcases Joins.ownsRow_forms h with ⟨e1, _⟩ | ⟨g, cap, e1⟩
  · injection e1 with e2; subst e2; cases hk
  · injection e1 with e2; subst e2; injection hk with hk; subst hk; rfl
theorem OBK.grow {w0 w w8 : World} {bs : List Nat} {a : Option Addr} {c g c' N : Nat} {ea : Option Addr} {es : List EdP} (h : OBK w0 bs a c ea es w) (bs' : List Nat) (hlen : bs'.length = N) (hown : w8.ownsRow w0.heap.size 5 1 (.slice (some ⟨g, 0, none⟩) N c') N (bytesV bs')) (hg : w.grownBy w8 (Value.slice a bs.length c).ownBlock) (hat : (Value.slice a bs.length c).ownBlock = some g ∨ g = w.heap.size) : OBK w0 bs' (some ⟨g, 0, none⟩) c' ea es w8 := by
  subst hlen
  have lt : ∀ eb eo, ea = some ⟨eb, eo, none⟩ → 0 < es.length → eb < w.heap.size := fun eb eo e1 h0 => by
    obtain ⟨b, o, e2, hc⟩ := h.e.at h0
    rw [e1] at e2; injection e2 with e2; injection e2 with e2; subst e2
    exact lt_of_cell (hc 0 h0).1
  refine ⟨⟨hown, h.o.2.grown hg h.o.2.size (fun k e => (h.o.1.lt k e).1)⟩, ?_, fun g2 eb eo e1 e2 h0 => ?_⟩
  · rcases Nat.eq_zero_or_pos es.length with h0 | h0
    · exact ⟨rfl, fun h1 => by omega⟩
    · exact holdsEd_blocks h.e fun b o e1 => hg.block b (lt b o e1 h0) fun e2 => h.d b b o (own_at9 h.o.1 e2.symm) e1 h0 rfl
  · injection e1 with e1; injection e1 with e1; subst e1
    rcases hat with e3 | e3
    · exact h.d _ eb eo (own_at9 h.o.1 e3) e2 h0
    · have := lt eb eo e2 h0; omega
theorem putB9 (v : Int) (s : Nat) (hs : 0 < s ∧ s ≤ 8) (w : World) : Calls Tryz.prog 71 #[.slice none 0 0, .int .i64 v, .int .i64 (s : Int)] w fun e w' => ∃ q c, e = .returned (.slice (some ⟨q, 0, none⟩) s c) ∧ (∀ (j : Nat) u, (bytesV (Cod.bytesOf (bitsV v) s))[j]? = some u → w'.cell? ((⟨q, 0, none⟩ : Addr).add j) = some u) ∧ Below w.heap.size w w' := by
  refine (put_any none 0 0 [] v (s : Int) w (holdsB_nil _ _) (fun _ => ⟨rfl, rfl⟩) (by omega)).mono ?_
  rintro e w' ⟨a, c, rfl, h1, h2, h3⟩
  have e1 : sizeV (s : Int) = s := by unfold sizeV; omega
  rw [e1, List.nil_append] at h1 h3 ⊢
  rw [Cod.bytesOf_length] at h1 h3 ⊢
  obtain ⟨q, cap, e2⟩ := Joins.ownsRow_form h1 hs.1
  injection e2 with e2
  subst e2
  exact ⟨q, c, rfl, (owns_holds h1).cells (World.grownBy.refl _ _) _ rfl, h2⟩
set_option maxHeartbeats 6400000 in
set_option maxRecDepth 100000 in
theorem encode_any (g : Nat) (st : List GN) (S : Nat → Prop) (w : World) (h : GAt g st w S) (hE : ∀ x ∈ st, x.edges.length ≤ 1000) (hR : ∀ x ∈ st, ∀ e ∈ x.edges, 0 ≤ e.r ∧ e.r ≤ 2147483647) (hS : (bodyB st).length ≤ 524000) (hL : st.length ≤ 60000) :
    Calls Tryz.prog 57 #[.pointer (some ⟨g, 0, none⟩)] w (RetE w (imgB st)) := by
  obtain ⟨i0, hi, hz0, hz1, hz2⟩ := info_parts u8_info
  have HG := Lib.hid h; have HE := Lib.hid hE; have HR := Lib.hid hR; have HS := Lib.hid hS
  obtain ⟨L, hLL⟩ : ∃ L, st.length = L := ⟨_, rfl⟩
  have HL := Lib.hid hLL
  rw [hLL] at hL
  have CN := Lib.hid (fun w' (hb : Below w.heap.size w w') => (show Calls Tryz.prog 72 #[.pointer (some ⟨g, 0, none⟩)] w' fun e w'' => e = .returned (.int .i64 L) ∧ w' = w'' from HL.out ▸ gNodes_any g st S w' ((gAt_ok g st).below HG.out hb)))
  clear h hE hR hS hLL
  go_enter Tryz.func57, Tryz.ntmps57
  go_wp2_with fail
  refine (magic_any w).mono ?_
  rintro e w1 ⟨a1, c1, rfl, o1, b1, -⟩
  have O1 := Lib.hid (show w1.ownsRow w.heap.size 5 1 (.slice a1 4 c1) 4 (bytesV [73, 78, 75, 49]) from o1); have B1 := Lib.hid b1
  clear o1 b1
  go_wp2_with fail
  with_reducible refine (CN.out w1 B1.out).mono ?_
  rintro e w2 ⟨rfl, rfl⟩
  go_wp2_with fail
  refine (put9 (L : Int) 2 (by omega) w1).mono ?_
  rintro e w2 ⟨a2, c2, rfl, v2, n2, b2⟩
  rw [bits_nat9 L (by omega)] at v2
  have V2 := Lib.hid v2; have N2 := Lib.hid n2; have O2 := Lib.hid (owns_below O1.out b2); have B2 := Lib.hid (B1.out.trans (b2.mono B1.out.size))
  clear v2 n2 b2
  go_wp2_with (at_builtin; refine wpList_append_any rfl (.tmp 12) (.tmp 15) 47 rfl w.heap.size 5 i0 (.int .u8 0) 1 1 Tryz.underlying47 hi hz0 hz1 hz2 rfl (by decide) _ 4 (bytesV [73, 78, 75, 49]) rfl O2.out a2 2 c2 (bytesV (Cod.bytesOf L 2)) rfl N2.out (by rw [bytesV_length, Cod.bytesOf_length]) (V2.out.cells (World.grownBy.refl _ _)) (bytesV_one _) (by unfold maxLen; omega) (by omega) B2.out.size ?_; intro a3 c3 w3 hown3 hb3 hnil3; rw [bytesV_append] at hown3)
  have O3 := Lib.hid (show OB w ([73, 78, 75, 49] ++ Cod.bytesOf L 2) a3 c3 w3 from ⟨by rw [List.length_append, Cod.bytesOf_length]; exact hown3, B2.out.trans (hb3.mono (Nat.le_refl _))⟩)
  have CN3 := Lib.hid (CN.out w3 O3.out.2)
  clear hown3 hb3 hnil3 O1 B1 V2 N2 O2 B2 CN
  go_wp2_with fail
  with_reducible refine CN3.out.mono ?_
  rintro e w4 ⟨rfl, rfl⟩
  go_wp2_with fail
  go_loopw [4, 19] (fun bv iv wr => ∃ (j : Nat) (bs : List Nat) (ba : Option Addr) (bc : Nat), j ≤ L ∧ bv = .slice ba bs.length bc ∧ iv = .int .i64 j ∧ Hid (bs ++ (st.drop j).flatMap ndB = bodyB st) ∧ Hid (OB w bs ba bc wr)) (fun _ iv _ => L - (intOf iv).toNat)
  case atStart => exact ⟨0, [73, 78, 75, 49] ++ Cod.bytesOf L 2, a3, c3, by omega, by rw [List.length_append, Cod.bytesOf_length]; rfl, rfl, Lib.hid (by rw [List.drop_zero, List.append_assoc]; unfold bodyB; rw [HL.out]), O3⟩
  case round =>
    clear O3 CN3
    obtain ⟨j, bs, ba, bc, hj, rfl, rfl, hB, hO⟩ := hrel
    have hbl : bs.length ≤ 524000 := by
      have h1 := congrArg List.length hB.out
      rw [List.length_append] at h1
      have := HS.out; omega
    by_cases hlt : j < L
    · obtain ⟨x, hx⟩ : ∃ x, st.getD j gn0 = x := ⟨_, rfl⟩
      have hmem : x ∈ st := by
        have := HL.out
        rw [← hx, List.getD_eq_getElem?_getD, List.getElem?_eq_getElem (show j < st.length by omega)]
        exact List.getElem_mem _
      have DJ := Lib.hid (show st.drop j = x :: st.drop (j + 1) from by rw [← hx]; exact getD_edges (by rw [HL.out]; exact hlt))
      have ER := Lib.hid (HR.out x hmem)
      have e1 : hasG st (j : Int) = true := by unfold hasG; rw [HL.out]; exact decide_eq_true (by omega)
      have CE := Lib.hid (gEdges_any g st S (j : Int) wr ((gAt_ok g st).below HG.out hO.out.2) HE.out)
      have CF := Lib.hid (fun w' (hb : Below w.heap.size w w') => (show Calls Tryz.prog 75 #[.pointer (some ⟨g, 0, none⟩), .int .i64 (j : Int)] w' fun e w'' => e = .returned (.bool x.final) ∧ w' = w'' from by
        have h1 := gFinal_any g st S (j : Int) w' ((gAt_ok g st).below HG.out hb)
        rw [show finG st (j : Int) = x.final by unfold finG; rw [e1, Bool.true_and, Int.toNat_natCast, hx]] at h1
        exact h1))
      rw [show edgesG st (j : Int) = x.edges by unfold edgesG; rw [if_pos e1, Int.toNat_natCast, hx]] at CE
      have hml := HE.out x hmem
      obtain ⟨m, hm⟩ : ∃ m, x.edges.length = m := ⟨_, rfl⟩
      have HM := Lib.hid hm
      rw [hm] at hml
      have n1 : (0 : Int) ≤ (j : Int) := by omega
      have n2 : (j : Int) < (L : Int) := by omega
      clear hx hmem e1 hm
      go_wp2_with fail
      with_reducible refine CE.out.mono ?_
      rintro e w4 ⟨ea, ec, rfl, ho, hb⟩
      have K4 := Lib.hid (show OBK w bs ba bc ea x.edges w4 from ⟨hO.out.more hb, HoldsEd.own ho, fun g1 eb eo e1 e2 h0 => by
        have h1 := (hO.out.1.lt g1 (by rw [e1]; rfl)).2
        have h2 := (ho.lt eb (by rw [e2]; rfl)).1
        omega⟩)
      rw [HM.out]
      clear ho hb CE
      go_wp2_with fail
      have CF4 := Lib.hid (CF.out w4 K4.out.o.2)
      with_reducible refine CF4.out.mono ?_
      rintro e w5 ⟨rfl, rfl⟩
      go_wp2_with fail
      refine (final_byte x.final w4).mono ?_
      rintro e w5 ⟨rfl, rfl⟩
      have FB := Lib.hid (show (if x.final then 1 else 0 : Nat) = finN x from rfl)
      rw [FB.out]
      have K4a := Lib.hid (K4.out.more (below_one w4 (.cells #[.int .u8 (finN x : Int)] 5)))
      obtain ⟨fb, hfb⟩ : ∃ fb, finN x = fb := ⟨_, rfl⟩
      have HFB := Lib.hid hfb
      rw [hfb] at K4a ⊢
      have O4a := Lib.hid K4a.out.o.1
      have Z4 := K4.out.o.2.size
      clear hfb FB
      go_wp2_with (at_builtin; refine wpList_append_lies _ rfl (.tmp 25) (.tmp 30) 47 rfl w.heap.size 5 i0 (.int .u8 0) 1 1 Tryz.underlying47 hi hz0 hz1 hz2 rfl (by decide) (.slice ba bs.length bc) bs.length (bytesV bs) (by rfl) O4a.out ⟨w4.heap.size, 0, none⟩ 1 1 [.int .u8 (fb : Int)] (by rfl) (by rfl) (World.news_of_block (cs := #[.int .u8 (fb : Int)]) (t := 5) (fr := (0, 0)) (heap_alloc_new w4 _)) (by simp [Value.oneCell']) (by decide) (by unfold maxLen; omega) (by omega) (by simp; omega) (w4.heap.size + 1) (by simp) ?_; intro g6 c6 w6 hown6 hgrow6 hat6 hlt6)
      have K6 := Lib.hid (K4a.out.grow (bs ++ [fb]) (N := bs.length + 1) (by simp) (by rw [← bytesV_append]; exact hown6) hgrow6 (hat6.imp id (fun e => by rw [e]; simp)))
      clear hown6 hgrow6 hat6 hlt6 K4a O4a
      refine (putB9 (m : Int) 2 (by omega) w6).mono ?_
      rintro e w7 ⟨q7, c7, rfl, v7, b7⟩
      rw [bits_nat9 m (by omega)] at v7
      have V7 := Lib.hid v7
      have K7 := Lib.hid (K6.out.more b7)
      have O7 := Lib.hid (show w7.ownsRow w.heap.size 5 1 (.slice (some ⟨g6, 0, none⟩) (bs.length + 1) c6) (bs.length + 1) (bytesV (bs ++ [fb])) from by
        have h1 := K7.out.o.1
        rw [List.length_append] at h1
        exact h1)
      clear v7 b7 K6
      go_wp2_with (at_builtin; refine wpList_append_lies _ rfl (.tmp 32) (.tmp 35) 47 rfl w.heap.size 5 i0 (.int .u8 0) 1 1 Tryz.underlying47 hi hz0 hz1 hz2 rfl (by decide) (.slice (some ⟨g6, 0, none⟩) (bs.length + 1) c6) (bs.length + 1) (bytesV (bs ++ [fb])) (by rfl) O7.out ⟨q7, 0, none⟩ 2 c7 (bytesV (Cod.bytesOf m 2)) (by rfl) (by rfl) V7.out (bytesV_one _) (by decide) (by unfold maxLen; omega) (by omega) K7.out.o.2.size w7.heap.size rfl ?_; intro g8 c8 w8 hown8 hgrow8 hat8 hlt8)
      have K8 := Lib.hid (K7.out.grow (bs ++ [fb] ++ Cod.bytesOf m 2) (N := bs.length + 1 + 2) (by rw [List.length_append, List.length_append, Cod.bytesOf_length]; rfl) (by rw [← bytesV_append]; exact hown8) (by rw [List.length_append]; exact hgrow8) (by rw [List.length_append]; exact hat8))
      have BD := Lib.hid (show (bs ++ [fb] ++ Cod.bytesOf m 2) ++ ((x.edges.drop 0).flatMap edB ++ (st.drop (j + 1)).flatMap ndB) = bodyB st from by
        rw [← hB.out, DJ.out, List.drop_zero, List.flatMap_cons]
        unfold ndB
        rw [HFB.out, HM.out]
        simp only [List.append_assoc])
      clear hown8 hgrow8 hat8 hlt8 K7 O7 V7 hO hB
      go_wp2_with fail
      go_loopw [4, 39] (fun bv iv wq => ∃ (k : Nat) (cs : List Nat) (ba : Option Addr) (bc : Nat), k ≤ m ∧ bv = .slice ba cs.length bc ∧ iv = .int .i64 k ∧ Hid (cs ++ ((x.edges.drop k).flatMap edB ++ (st.drop (j + 1)).flatMap ndB) = bodyB st) ∧ Hid (OBK w cs ba bc ea x.edges wq)) (fun _ iv _ => m - (intOf iv).toNat)
      case atStart => exact ⟨0, bs ++ [fb] ++ Cod.bytesOf m 2, _, _, by omega, by rw [List.length_append, List.length_append, Cod.bytesOf_length]; rfl, rfl, BD, K8⟩
      case round =>
        clear K8 BD
        obtain ⟨k, cs, ba, bc, hk, rfl, rfl, hB, hK⟩ := hrel
        rename World => wq
        have hcl : cs.length ≤ 524000 := by
          have h1 := congrArg List.length hB.out
          rw [List.length_append] at h1
          have := HS.out; omega
        by_cases hkm : k < m
        · have hpos : 0 < x.edges.length := by rw [HM.out]; omega
          obtain ⟨eb, eo, rfl, hcc⟩ := hK.out.e.at hpos
          obtain ⟨y0, y1⟩ := hcc k (by rw [HM.out]; exact hkm)
          obtain ⟨y, hy⟩ : ∃ y, x.edges.getD k ed0 = y := ⟨_, rfl⟩
          rw [hy] at y0 y1
          have DK := Lib.hid (show x.edges.drop k = y :: x.edges.drop (k + 1) from by rw [← hy]; exact drop_ed9 (by rw [HM.out]; exact hkm))
          obtain ⟨yr, yr2⟩ := ER.out y (by rw [← hy, List.getD_eq_getElem?_getD, List.getElem?_eq_getElem (show k < x.edges.length by rw [HM.out]; exact hkm)]; exact List.getElem_mem _)
          have n3 : (0 : Int) ≤ (k : Int) := by omega
          have n4 : (k : Int) < (m : Int) := by omega
          have K5 := Lib.hid (hK.out.more (below_one wq (.cells #[.int .i32 y.r, .int .i64 y.dst] 116)))
          have X5 := Lib.hid (show (wq.alloc (.cells #[.int .i32 y.r, .int .i64 y.dst] 116)).cell? ⟨wq.heap.size, 1, none⟩ = some (.int .i64 y.dst) from by rw [cell_alloc rfl]; rfl)
          have XN := Lib.hid (show some wq.heap.size ≠ (Value.slice ba cs.length bc).ownBlock from fun e => by
            have h1 := (hK.out.o.1.lt wq.heap.size e.symm).2
            omega)
          clear hcc hy
          go_wp2_with fail
          refine (putB9 y.r 4 (by omega) _).mono ?_
          rintro e w5 ⟨q5, c5, rfl, v5, b5⟩
          have V5 := Lib.hid v5
          have K5b := Lib.hid (K5.out.more b5)
          have O5 := Lib.hid K5b.out.o.1
          have X6 := Lib.hid ((b5.cell (p := ⟨wq.heap.size, 1, none⟩) (lt_of_cell X5.out)).trans X5.out)
          have Z5 := K5b.out.o.2.size
          clear v5 b5 K5
          go_wp2_with (at_builtin; refine wpList_append_lies _ rfl (.tmp 43) (.tmp 47) 47 rfl w.heap.size 5 i0 (.int .u8 0) 1 1 Tryz.underlying47 hi hz0 hz1 hz2 rfl (by decide) (.slice ba cs.length bc) cs.length (bytesV cs) (by rfl) O5.out ⟨q5, 0, none⟩ 4 c5 (bytesV (Cod.bytesOf (bitsV y.r) 4)) (by rfl) (by rfl) V5.out (bytesV_one _) (by decide) (by unfold maxLen; omega) (by omega) Z5 w5.heap.size rfl ?_; intro g6 c6 w6 hown6 hgrow6 hat6 hlt6; have x6 : w6.cell? ⟨wq.heap.size, 1, none⟩ = some (.int .i64 y.dst) := (hgrow6.cell_far ⟨wq.heap.size, 1, none⟩ (lt_of_cell X6.out) XN.out).trans X6.out)
          have K6 := Lib.hid (K5b.out.grow (cs ++ Cod.bytesOf (bitsV y.r) 4) (N := cs.length + 4) (by rw [List.length_append, Cod.bytesOf_length]) (by rw [← bytesV_append]; exact hown6) hgrow6 hat6)
          clear hown6 hgrow6 hat6 hlt6 K5b O5 V5
          refine (putB9 y.dst 2 (by omega) w6).mono ?_
          rintro e w7 ⟨q7, c7, rfl, v7, b7⟩
          have V7 := Lib.hid v7
          have K7 := Lib.hid (K6.out.more b7)
          have O7 := Lib.hid (show w7.ownsRow w.heap.size 5 1 (.slice (some ⟨g6, 0, none⟩) (cs.length + 4) c6) (cs.length + 4) (bytesV (cs ++ Cod.bytesOf (bitsV y.r) 4)) from by
            have h1 := K7.out.o.1
            rw [List.length_append, Cod.bytesOf_length] at h1
            exact h1)
          clear v7 b7 K6 x6
          go_wp2_with (at_builtin; refine wpList_append_lies _ rfl (.tmp 49) (.tmp 52) 47 rfl w.heap.size 5 i0 (.int .u8 0) 1 1 Tryz.underlying47 hi hz0 hz1 hz2 rfl (by decide) (.slice (some ⟨g6, 0, none⟩) (cs.length + 4) c6) (cs.length + 4) (bytesV (cs ++ Cod.bytesOf (bitsV y.r) 4)) (by rfl) O7.out ⟨q7, 0, none⟩ 2 c7 (bytesV (Cod.bytesOf (bitsV y.dst) 2)) (by rfl) (by rfl) V7.out (bytesV_one _) (by decide) (by unfold maxLen; omega) (by omega) K7.out.o.2.size w7.heap.size rfl ?_; intro g8 c8 w8 hown8 hgrow8 hat8 hlt8)
          have K8 := Lib.hid (K7.out.grow (cs ++ Cod.bytesOf (bitsV y.r) 4 ++ Cod.bytesOf (bitsV y.dst) 2) (N := cs.length + 4 + 2) (by rw [List.length_append, List.length_append, Cod.bytesOf_length, Cod.bytesOf_length]) (by rw [← bytesV_append]; exact hown8) (by rw [List.length_append, Cod.bytesOf_length]; exact hgrow8) (by rw [List.length_append, Cod.bytesOf_length]; exact hat8))
          have BD := Lib.hid (show (cs ++ Cod.bytesOf (bitsV y.r) 4 ++ Cod.bytesOf (bitsV y.dst) 2) ++ ((x.edges.drop (k + 1)).flatMap edB ++ (st.drop (j + 1)).flatMap ndB) = bodyB st from by
            rw [← hB.out, DK.out, List.flatMap_cons]
            unfold edB
            simp only [List.append_assoc])
          clear hown8 hgrow8 hat8 hlt8 K7 O7 V7
          go_roundw
          case rel => exact ⟨k + 1, cs ++ Cod.bytesOf (bitsV y.r) 4 ++ Cod.bytesOf (bitsV y.dst) 2, _, _, by omega, by rw [List.length_append, List.length_append, Cod.bytesOf_length, Cod.bytesOf_length], by go_num, BD, K8⟩
          case measure => simp [intOf] <;> omega
        · obtain rfl : k = m := by omega
          have BE := Lib.hid (show cs ++ (st.drop (j + 1)).flatMap ndB = bodyB st from by
            rw [← hB.out, show x.edges.drop k = [] from List.drop_of_length_le (by rw [HM.out]; exact Nat.le_refl _)]; rfl)
          have OE := Lib.hid hK.out.o
          clear hB hK
          go_wp2_with fail
          go_roundw
          case rel => exact ⟨j + 1, cs, ba, bc, by omega, rfl, by go_num, BE, OE⟩
          case measure => simp [intOf] <;> omega
    · obtain rfl : j = L := by omega
      have BE := Lib.hid (show bs = bodyB st from by
        have h1 := hB.out
        rw [List.drop_of_length_le (by rw [HL.out]; omega)] at h1
        simpa using h1)
      have OE := hO.out
      have CS := Lib.hid (wSeal_any ba bs.length bc bs wr (holdsB_of_values (owns_holds OE.1) (by rw [BE.out]; exact bodyB_lt st)) (owns_none OE.1).1 (by omega))
      have IM := Lib.hid (show sealB bs = imgB st from by rw [BE.out]; rfl)
      have WB := Lib.hid OE.2
      clear OE hO hB BE
      go_wp2_with fail
      with_reducible refine CS.out.mono ?_
      rintro e w5 ⟨a5, c5, rfl, h1, h2, h3⟩
      have F := Lib.hid (show RetE w (imgB st) (.returned (.tuple #[.slice a5 (sealB bs).length c5, .int .i64 0])) w5 from by
        rw [IM.out] at h1 h3 ⊢
        exact ⟨a5, c5, rfl, base_less9 h1 WB.out.size, WB.out.trans (h2.mono WB.out.size), h3⟩)
      clear h1 h2 h3 CS
      go_wp2_with fail
      go_ret2
      exact F.out
end Go.Proofs.YtbbholdadgjelaaGreat
/- disk: in memory; find, Read, Life, Born, Rot, Mend, Rotten -/
namespace Go.Proofs.YtbbholdadgjelaaGreat
open Go.RowKit
set_option linter.unusedVariables false
set_option maxRecDepth 20000
/-- an image on a disk: the right bytes, and those that are stored, with where they lie -/
structure DI where
  oa : Option Addr
  ob : List Nat
  oc : Nat
  sa : Option Addr
  sb : List Nat
  sc : Nat
def diV (x : DI) : Value := .agg #[.slice x.oa x.ob.length x.oc, .slice x.sa x.sb.length x.sc]
def diZ : Value := .agg #[.slice none 0 0, .slice none 0 0]
theorem zeroDi (w : World) : (zeroValue 67).run Tryz.prog w = .ok diZ w := by kernel_rfl
theorem mapTd : MapT 60 67 diZ := ⟨Tryz.underlying60, zeroDi⟩
/-- the bytes of an image, as they lie -/
structure ImgK (w : World) (i : DI) : Prop where
  o : HoldsB w i.oa i.ob.length i.ob
  s : HoldsB w i.sa i.sb.length i.sb
  oc : i.ob.length ≤ i.oc
  sc : i.sb.length ≤ i.sc
  lo : 10 ≤ i.ob.length
  hi : i.ob.length ≤ 524004
  eq : i.sb.length = i.ob.length
theorem ImgK.below {w w' : World} {i : DI} (h : ImgK w i) (hb : Below w.heap.size w w') : ImgK w' i := ⟨h.o.below hb, h.s.below hb, h.oc, h.sc, h.lo, h.hi, h.eq⟩
theorem ImgK.turn {w w' : World} {i : DI} {F : Nat → Prop} (h : ImgK w i) (t : Turn F w w') (h1 : ∀ q o, i.oa = some ⟨q, o, none⟩ → ¬ F q) (h2 : ∀ q o, i.sa = some ⟨q, o, none⟩ → ¬ F q) : ImgK w' i := ⟨holdsB_turn h.o t h1, holdsB_turn h.s t h2, h.oc, h.sc, h.lo, h.hi, h.eq⟩
def apartD (d M : Nat) (a : Option Addr) : Prop := ∀ q o, a = some ⟨q, o, none⟩ → q ≠ d ∧ q ≠ M
def fV (f : Int → Option DI) : Int → Option Value := fun x => (f x).map diV
/-- a disk in block d, its map in M, all of it from B on -/
structure DAt (B d M n : Nat) (f : Int → Option DI) (life : Nat) (w : World) : Prop where
  c0 : w.cell? ⟨d, 0, none⟩ = some (.map (some M))
  c1 : w.cell? ⟨d, 1, none⟩ = some (.int .i64 (life : Int))
  fz : ∀ i, w.frozen? ⟨d, i, none⟩ = false
  dM : d ≠ M
  m : MapV w M n (fV f)
  im : ∀ x i, f x = some i → ImgK w i
  ap : ∀ x i, f x = some i → apartD d M i.oa ∧ apartD d M i.sa
  dB : B ≤ d
  MB : B ≤ M
  n1 : n ≤ 1000
theorem DAt.below {B d M n life : Nat} {f : Int → Option DI} {w w' : World} (h : DAt B d M n f life w) (hb : Below w.heap.size w w') : DAt B d M n f life w' := by
  have ld := lt_of_cell h.c0
  exact ⟨(hb.cell (p := ⟨d, 0, none⟩) ld).trans h.c0, (hb.cell (p := ⟨d, 1, none⟩) ld).trans h.c1, fun i => (hb.frozen (p := ⟨d, i, none⟩) ld).trans (h.fz i), h.dM, h.m.below hb, fun x i e => (h.im x i e).below hb, h.ap, h.dB, h.MB, h.n1⟩
/-- the next life -/
theorem DAt.born {B d M n life : Nat} {f : Int → Option DI} {w : World} (h : DAt B d M n f life w) : DAt B d M n f (life + 1) (w.setCell ⟨d, 1, none⟩ (.int .i64 ((life + 1 : Nat) : Int))) := by
  have t : Turn (fun k => k = d) w (w.setCell ⟨d, 1, none⟩ (.int .i64 ((life + 1 : Nat) : Int))) := Turn.setCell rfl
  exact ⟨(cset_ne (by omega)).trans h.c0, cset_at h.c1, fun i => fset_any.trans (h.fz i), h.dM, h.m.setCell (fun e => h.dM e.symm), fun x i e => (h.im x i e).turn t (fun q o e2 => ((h.ap x i e).1 q o e2).1) (fun q o e2 => ((h.ap x i e).2 q o e2).1), h.ap, h.dB, h.MB, h.n1⟩
/-- an image more, or another one -/
def fput (f : Int → Option DI) (x : Int) (i : DI) : Int → Option DI := fun a => if a = x then some i else f a
theorem fput_at (f : Int → Option DI) (x : Int) (i : DI) : fput f x i x = some i := by simp [fput]
theorem fput_ne (f : Int → Option DI) (x a : Int) (i : DI) (h : a ≠ x) : fput f x i a = f a := by simp [fput, h]
theorem fV_put (f : Int → Option DI) (x : Int) (i : DI) : vset (fV f) x (some (diV i)) = fV (fput f x i) := by
  funext a
  unfold vset fV fput
  by_cases h : a = x <;> simp [h]
theorem DAt.put {B d M n n' life : Nat} {f : Int → Option DI} {x : Int} {i : DI} {w w' : World} (h : DAt B d M n f life w) (hi : ImgK w i) (ha : apartD d M i.oa ∧ apartD d M i.sa) (m : MapV w' M n' (vset (fV f) x (some (diV i)))) (t : w.mapTurned w' M) (hn : n' ≤ 1000) : DAt B d M n' (fput f x i) life w' := by
  have T := TurnV.of_mapTurned (F := fun k => k = M) t rfl
  have ld := lt_of_cell h.c0
  refine ⟨(T.cell ld h.dM).trans h.c0, (T.cell ld h.dM).trans h.c1, fun j => (T.frozen ld h.dM).trans (h.fz j), h.dM, by rw [← fV_put]; exact m, fun z j e => ?_, fun z j e => ?_, h.dB, h.MB, hn⟩
  · unfold fput at e
    split at e
    · injection e with e; subst e
      exact hi.turn T (fun q o e2 => (ha.1 q o e2).2) (fun q o e2 => (ha.2 q o e2).2)
    · exact (h.im z j e).turn T (fun q o e2 => ((h.ap z j e).1 q o e2).2) (fun q o e2 => ((h.ap z j e).2 q o e2).2)
  · unfold fput at e
    split at e
    · injection e with e; subst e
      exact ha
    · exact h.ap z j e
set_option maxHeartbeats 1600000 in
theorem dfind_yes (d : Nat) (x : Int) (i : DI) {B M n life : Nat} {f : Int → Option DI} (w : World) (h : DAt B d M n f life w) (hx : wfI x) (hf : f x = some i) :
    Calls Tryz.prog 29 #[.pointer (some ⟨d, 0, none⟩), .int .i64 x] w fun e w' => e = .returned (.tuple #[.agg #[.slice i.oa i.ob.length i.oc, .slice i.sa i.sb.length i.sc], .int .i64 0]) ∧ Below w.heap.size w w' := by
  have hb1 := below_one w (.cells #[.slice none 0 0, .slice none 0 0] 67)
  have c0 := (hb1.cell (p := ⟨d, 0, none⟩) (lt_of_cell h.c0)).trans h.c0
  have HM := Lib.hid (h.m.below hb1)
  have e1 : (fV f x).getD diZ = diV i := by unfold fV; rw [hf]; rfl
  have e2 : (fV f x).isSome = true := by unfold fV; rw [hf]; rfl
  have E1 := Lib.hid e1; have E2 := Lib.hid e2
  obtain ⟨oa, ob, oc, sa, sb, sc⟩ := i
  obtain ⟨no, hno⟩ : ∃ v, ob.length = v := ⟨_, rfl⟩
  obtain ⟨ns, hns⟩ : ∃ v, sb.length = v := ⟨_, rfl⟩
  unfold diV at E1
  simp only [hno, hns] at E1 ⊢
  clear h hb1 e1 e2 hf hno hns
  go_enter Tryz.func29, Tryz.ntmps29
  go_wp2_with (at_lookup; refine wpList_look_mv mapTd rfl (.tmp 15) (.tmp 16) rfl rfl HM.out x rfl hx (.agg #[.slice oa no oc, .slice sa ns sc]) true E1.out E2.out ?_)
  exact bodyPost_ret (v := .tuple #[.agg #[.slice oa no oc, .slice sa ns sc], .int .i64 0]) (by simp [results, go_sem]) rfl ⟨rfl, (by repeat' (first | exact Below.refl _ _ | refine Below.drew ?_ | refine Below.alloc ?_ (by simp <;> omega) _ | refine Below.setCell ?_ (by simp <;> omega) _))⟩
theorem dfind_no (d : Nat) (x : Int) {B M n life : Nat} {f : Int → Option DI} (w : World) (h : DAt B d M n f life w) (hx : wfI x) (hf : f x = none) :
    Calls Tryz.prog 29 #[.pointer (some ⟨d, 0, none⟩), .int .i64 x] w fun e w' => e = .returned (.tuple #[.agg #[.slice none 0 0, .slice none 0 0], .int .i64 4]) ∧ Below w.heap.size w w' := by
  have hb1 := below_one w (.cells #[.slice none 0 0, .slice none 0 0] 67)
  have c0 := (hb1.cell (p := ⟨d, 0, none⟩) (lt_of_cell h.c0)).trans h.c0
  have HM := Lib.hid (h.m.below hb1)
  have E1 := Lib.hid (show (fV f x).getD diZ = .agg #[.slice none 0 0, .slice none 0 0] from by unfold fV; rw [hf]; rfl)
  have E2 := Lib.hid (show (fV f x).isSome = false from by unfold fV; rw [hf]; rfl)
  clear h hb1 hf
  go_enter Tryz.func29, Tryz.ntmps29
  go_wp2_with (at_lookup; refine wpList_look_mv mapTd rfl (.tmp 15) (.tmp 16) rfl rfl HM.out x rfl hx (.agg #[.slice none 0 0, .slice none 0 0]) false E1.out E2.out ?_)
  exact bodyPost_ret (v := .tuple #[.agg #[.slice none 0 0, .slice none 0 0], .int .i64 4]) (by simp [results, go_sem]) rfl ⟨rfl, (by repeat' (first | exact Below.refl _ _ | refine Below.drew ?_ | refine Below.alloc ?_ (by simp <;> omega) _ | refine Below.setCell ?_ (by simp <;> omega) _))⟩
theorem dfind_nil (x : Int) (w : World) : Calls Tryz.prog 29 #[.pointer none, .int .i64 x] w fun e w' => e = .returned (.tuple #[.agg #[.slice none 0 0, .slice none 0 0], .int .i64 1]) ∧ Below w.heap.size w w' := by
  go_enter Tryz.func29, Tryz.ntmps29
  go_wp2_with fail
  exact bodyPost_ret (v := .tuple #[.agg #[.slice none 0 0, .slice none 0 0], .int .i64 1]) (by simp [results, go_sem]) rfl ⟨rfl, (by repeat' (first | exact Below.refl _ _ | refine Below.drew ?_ | refine Below.alloc ?_ (by simp <;> omega) _ | refine Below.setCell ?_ (by simp <;> omega) _))⟩
/-- what stands of an image in a box of its own -/
theorem box2d (w : World) (u v : Value) (t : TypeId) : (w.alloc (.cells #[u, v] t)).cell? ⟨w.heap.size, 0, none⟩ = some u ∧ (w.alloc (.cells #[u, v] t)).cell? ⟨w.heap.size, 1, none⟩ = some v ∧ ∀ i, (w.alloc (.cells #[u, v] t)).frozen? ⟨w.heap.size, i, none⟩ = false :=
  ⟨by rw [cell_alloc rfl]; rfl, by rw [cell_alloc rfl]; rfl, fun i => frozen_alloc rfl⟩
def ReadD (w : World) (bs : List Nat) (e : Ending) (w' : World) : Prop := ∃ a c, e = .returned (.tuple #[.slice a bs.length c, .int .i64 0]) ∧ w'.ownsRow w.heap.size 5 1 (.slice a bs.length c) bs.length (bytesV bs) ∧ bs.length ≤ c ∧ Below w.heap.size w w'
theorem dread_yes (d : Nat) (x : Int) (i : DI) {B M n life : Nat} {f : Int → Option DI} (w : World) (h : DAt B d M n f life w) (hx : wfI x) (hf : f x = some i) :
    Calls Tryz.prog 14 #[.pointer (some ⟨d, 0, none⟩), .int .i64 x] w (ReadD w i.sb) := by
  have CF := Lib.hid (dfind_yes d x i w h hx hf)
  have K := Lib.hid (h.im x i hf)
  have CC := Lib.hid (fun w' (hb : Below w.heap.size w w') => clone_any i.sa i.sb.length i.sc i.sb w' (K.out.s.below hb) (fun e => by
    have h1 := K.out.s.at (by have := K.out.lo; have := K.out.eq; omega)
    obtain ⟨q, o, e2, -⟩ := h1
    rw [e] at e2; cases e2) (by have := K.out.hi; have := K.out.eq; omega))
  obtain ⟨oa, ob, oc, sa, sb, sc⟩ := i
  simp only at CF CC ⊢
  clear h hf
  go_enter Tryz.func14, Tryz.ntmps14
  go_wp2_with fail
  with_reducible refine CF.out.mono ?_
  rintro e w1 ⟨rfl, hb⟩
  have B1 := Lib.hid (hb.trans ((below_one w1 (.cells #[.slice oa ob.length oc, .slice sa sb.length sc] 67)).mono hb.size))
  have C1 := Lib.hid (CC.out _ B1.out)
  clear hb CF CC
  go_wp2_with fail
  with_reducible refine C1.out.mono ?_
  rintro e w2 ⟨a, c, rfl, ho, hb, -⟩
  have F := Lib.hid (show w2.ownsRow w.heap.size 5 1 (.slice a sb.length c) sb.length (bytesV sb) ∧ sb.length ≤ c ∧ Below w.heap.size w w2 from ⟨base_less9 ho B1.out.size, (owns_none ho).2, B1.out.trans (hb.mono B1.out.size)⟩)
  clear ho hb C1
  go_wp2_with fail
  go_ret2
  exact ⟨a, c, rfl, F.out⟩
theorem dread_no (d : Nat) (x : Int) {B M n life : Nat} {f : Int → Option DI} (w : World) (h : DAt B d M n f life w) (hx : wfI x) (hf : f x = none) :
    Calls Tryz.prog 14 #[.pointer (some ⟨d, 0, none⟩), .int .i64 x] w fun e w' => e = .returned (.tuple #[.slice none 0 0, .int .i64 4]) ∧ Below w.heap.size w w' := by
  have CF := Lib.hid (dfind_no d x w h hx hf)
  clear h hf
  go_enter Tryz.func14, Tryz.ntmps14
  go_wp2_with fail
  with_reducible refine CF.out.mono ?_
  rintro e w1 ⟨rfl, hb⟩
  have B1 := Lib.hid (hb.trans ((below_one w1 (.cells #[.slice none 0 0, .slice none 0 0] 67)).mono hb.size))
  clear hb CF
  go_wp2_with fail
  go_ret2
  exact ⟨rfl, B1.out⟩
theorem dread_nil (x : Int) (w : World) : Calls Tryz.prog 14 #[.pointer none, .int .i64 x] w fun e w' => e = .returned (.tuple #[.slice none 0 0, .int .i64 1]) ∧ Below w.heap.size w w' := by
  go_enter Tryz.func14, Tryz.ntmps14
  go_wp2_with fail
  refine (dfind_nil x w).mono ?_
  rintro e w1 ⟨rfl, hb⟩
  have B1 := Lib.hid (hb.trans ((below_one w1 (.cells #[.slice none 0 0, .slice none 0 0] 67)).mono hb.size))
  clear hb
  go_wp2_with fail
  go_ret2
  exact ⟨rfl, B1.out⟩
theorem dlife_nil (w : World) : Calls Tryz.prog 19 #[.pointer none] w fun e w' => e = .returned (.int .i64 0) ∧ w = w' := by
  go_enter Tryz.func19, Tryz.ntmps19
  go_wp2_with fail
  go_ret
  exact ⟨rfl, rfl⟩
theorem dborn_nil (w : World) : Calls Tryz.prog 13 #[.pointer none] w fun e w' => e = .returned (.int .i64 0) ∧ w = w' := by
  go_enter Tryz.func13, Tryz.ntmps13
  go_wp2_with fail
  go_ret
  exact ⟨rfl, rfl⟩
theorem dlife_any (d : Nat) {B M n life : Nat} {f : Int → Option DI} (w : World) (h : DAt B d M n f life w) : Calls Tryz.prog 19 #[.pointer (some ⟨d, 0, none⟩)] w fun e w' => e = .returned (.int .i64 (life : Int)) ∧ w = w' := by
  have c1 := h.c1
  clear h
  go_enter Tryz.func19, Tryz.ntmps19
  go_wp2_with fail
  go_ret
  exact ⟨rfl, rfl⟩
theorem dborn_any (d : Nat) {B M n life : Nat} {f : Int → Option DI} (w : World) (h : DAt B d M n f life w) (hl : life < 1000000) : Calls Tryz.prog 13 #[.pointer (some ⟨d, 0, none⟩)] w fun e w' => e = .returned (.int .i64 ((life + 1 : Nat) : Int)) ∧ DAt B d M n f (life + 1) w' ∧ Below B w w' := by
  have c1 := h.c1
  have f1 := h.fz 1
  have ld := lt_of_cell h.c0
  have H := Lib.hid h.born
  have BB := Lib.hid (show Below B w (w.setCell ⟨d, 1, none⟩ (.int .i64 ((life + 1 : Nat) : Int))) from (Below.refl B w).setCell (p := ⟨d, 1, none⟩) h.dB _)
  have e1 : (life : Int) + 1 = ((life + 1 : Nat) : Int) := by omega
  obtain ⟨l1, hl1⟩ : ∃ l, life + 1 = l := ⟨_, rfl⟩
  rw [hl1] at H BB e1 ⊢
  clear h hl1
  go_enter Tryz.func13, Tryz.ntmps13
  go_wp2_with fail
  go_ret
  exact ⟨rfl, H.out, BB.out⟩
end Go.Proofs.YtbbholdadgjelaaGreat
/- disk: Rot, Mend, Rotten -/
namespace Go.Proofs.YtbbholdadgjelaaGreat
open Go.RowKit
set_option linter.unusedVariables false
set_option maxRecDepth 20000
theorem apartD_new {B d M n life : Nat} {f : Int → Option DI} {w w1 : World} (h : DAt B d M n f life w) (hz : w.heap.size ≤ w1.heap.size) {a : Option Addr} {L c : Nat} {xs : List Value} {e : TypeId} {w2 : World} (ho : w2.ownsRow w1.heap.size e 1 (.slice a L c) L xs) (hL : 0 < L) : apartD d M a := fun q o e1 => by
  obtain ⟨q2, cp, e2⟩ := Joins.ownsRow_form ho hL
  simp only [Value.slice.injEq] at e2
  have h1 := (ho.lt q2 (by rw [e2.1]; rfl)).1
  rw [e2.1] at e1
  injection e1 with e1; injection e1 with e1 e3; subst e1
  have := lt_of_cell h.c0
  have := h.m.lt
  omega
set_option maxHeartbeats 1600000 in
theorem drot_new (d : Nat) (x at_ xx : Int) (i : DI) {B M n life : Nat} {f : Int → Option DI} (w : World) (h : DAt B d M n f life w) (hx : wfI x) (hf : f x = some i) :
    Calls Tryz.prog 9 #[.pointer (some ⟨d, 0, none⟩), .int .i64 x, .int .i64 at_, .int .i64 xx] w fun e w' => e = .returned (.int .i64 0) ∧ (∃ sa sc, DAt B d M n (fput f x ⟨i.oa, i.ob, i.oc, sa, Dm.turned i.ob at_ xx, sc⟩) life w' ∧ ∀ q o, sa = some ⟨q, o, none⟩ → w.heap.size ≤ q) ∧ Below B w w' ∧ Turn (fun k => k = M) w w' := by
  have CF := Lib.hid (dfind_yes d x i w h hx hf)
  have K := Lib.hid (h.im x i hf)
  have AP := Lib.hid (h.ap x i hf)
  have H := Lib.hid h
  have HF := Lib.hid hf
  have CC := Lib.hid (fun w' (hb : Below w.heap.size w w') => change_any i.oa i.ob.length i.oc i.ob at_ xx w' (K.out.o.below hb) (fun e => by
    obtain ⟨q, o, e2, -⟩ := K.out.o.at (by have := K.out.lo; omega)
    rw [e] at e2; cases e2) (by have := K.out.lo; omega) (by have := K.out.hi; omega))
  obtain ⟨oa, ob, oc, sa, sb, sc⟩ := i
  simp only at CF CC K AP ⊢
  obtain ⟨T, hT⟩ : ∃ T, Dm.turned ob at_ xx = T := ⟨_, rfl⟩
  have HT := Lib.hid hT
  obtain ⟨L, hL⟩ : ∃ L, ob.length = L := ⟨_, rfl⟩
  have HL := Lib.hid hL
  have TL : T.length = L := by rw [← hT, Dm.turned_len, hL]
  have TLH := Lib.hid TL
  rw [hT, hL] at CC
  unfold RetB at CC
  rw [TL] at CC
  rw [hL] at CF
  rw [hT]
  clear h hf hT hL TL
  go_enter Tryz.func9, Tryz.ntmps9
  go_wp2_with fail
  with_reducible refine CF.out.mono ?_
  rintro e w1 ⟨rfl, hb⟩
  have BX := below_one w1 (.cells #[.slice oa L oc, .slice sa sb.length sc] 67)
  have B2 := Lib.hid (hb.trans (BX.mono hb.size))
  obtain ⟨p, hp⟩ : ∃ p, w1.heap.size = p := ⟨_, rfl⟩
  have bx := box2d w1 (.slice oa L oc) (.slice sa sb.length sc) 67
  rw [hp] at bx
  have HP := Lib.hid hp
  have hwp : w.heap.size ≤ p := by rw [← hp]; exact hb.size
  have C1 := Lib.hid (CC.out _ B2.out)
  go_upto_region 4 with fail
  obtain ⟨w2, hw2⟩ : ∃ w2, w1.alloc (.cells #[.slice oa L oc, .slice sa sb.length sc] 67) = w2 := ⟨_, rfl⟩
  rw [hw2] at bx C1 B2 ⊢
  try simp only [hp]
  obtain ⟨b0, b1, bf⟩ := bx
  have LP2 := Lib.hid (show p < w2.heap.size from lt_of_cell b0)
  clear hb BX CF CC hp hw2
  go_wp2_with fail
  with_reducible refine C1.out.mono ?_
  rintro e w3 ⟨a3, c3, rfl, ho, hb3, -⟩
  have B3 := Lib.hid (B2.out.trans (hb3.mono B2.out.size))
  have z0 := (hb3.cell (p := ⟨p, 0, none⟩) (lt_of_cell b0)).trans b0
  have z1 := (hb3.cell (p := ⟨p, 1, none⟩) (lt_of_cell b1)).trans b1
  have zf := (hb3.frozen (p := ⟨p, 1, none⟩) (lt_of_cell b1)).trans (bf 1)
  have lp : p < w3.heap.size := lt_of_cell z0
  have O3 := Lib.hid ho
  have S2 := Lib.hid B2.out.size
  clear hb3 ho C1 b0 b1 bf
  have B4 := Lib.hid (show Below w.heap.size w (w3.setCell ⟨p, 1, none⟩ (.slice a3 L c3)) from B3.out.setCell (p := ⟨p, 1, none⟩) hwp _)
  have O4 := Lib.hid (show (w3.setCell ⟨p, 1, none⟩ (.slice a3 L c3)).ownsRow w2.heap.size 5 1 (.slice a3 L c3) L (bytesV T) from gowns_block O3.out (fun q e => Below.heap_setCell _ _ _ _ (show q ≠ p by
    have h1 : w2.heap.size ≤ q := (O3.out.lt q (by rw [e]; rfl)).1
    have h2 := LP2.out
    omega)))
  have TB := Lib.hid (show ∀ b ∈ T, b < 256 from fun b hb => by
    rw [← HT.out] at hb
    unfold Dm.turned at hb
    rcases List.mem_or_eq_of_mem_set hb with hb | rfl
    · exact K.out.o.2 b hb
    · refine Nat.xor_lt_two_pow (n := 8) ?_ (by have := Dm.m_bd xx; omega)
      have hkk := Dm.k_lt ob.length at_ (by have := K.out.lo; simp only at this; omega)
      rw [List.getD_eq_getElem?_getD, List.getElem?_eq_getElem hkk]
      exact K.out.o.2 _ (List.getElem_mem _))
  have FR := Lib.hid (show ∀ q o, a3 = some ⟨q, o, none⟩ → w.heap.size ≤ q from fun q o e => by
    obtain ⟨q2, cp, e2⟩ := Joins.ownsRow_form O3.out (by have := K.out.lo; have := HL.out; simp only at *; omega)
    simp only [Value.slice.injEq] at e2
    have h1 := (O3.out.lt q2 (by rw [e2.1]; rfl)).1
    have h2 := B2.out.size
    rw [e] at e2
    obtain ⟨e3, -, -⟩ := e2
    injection e3 with e3; injection e3 with e3 e4
    omega)
  obtain ⟨w4, hw4⟩ : ∃ w4, w3.setCell ⟨p, 1, none⟩ (.slice a3 L c3) = w4 := ⟨_, rfl⟩
  have y0 : w4.cell? ⟨p, 0, none⟩ = some (.slice oa L oc) := by rw [← hw4, cset_ne (by omega)]; exact z0
  have y1 : w4.cell? ⟨p, 1, none⟩ = some (.slice a3 L c3) := by rw [← hw4]; exact cset_at z1
  rw [hw4] at B4 O4
  have HW4 := Lib.hid hw4
  have D4 := Lib.hid (H.out.below B4.out)
  have I4 := Lib.hid (show ImgK w4 ⟨oa, ob, oc, a3, T, c3⟩ from ⟨K.out.o.below B4.out, by
    show HoldsB w4 a3 T.length T
    rw [TLH.out]; exact holdsB_of_values (owns_holds O4.out) TB.out, K.out.oc, by show T.length ≤ c3; rw [TLH.out]; exact (owns_none O4.out).2, K.out.lo, K.out.hi, by show T.length = ob.length; rw [TLH.out, HL.out]⟩)
  have A4 := Lib.hid (show apartD d M a3 from apartD_new H.out S2.out O3.out (by have := K.out.lo; have := HL.out; simp only at *; omega))
  have c4 := D4.out.c0
  have E2 : (fV f x).isSome = true := by unfold fV; rw [HF.out]; rfl
  obtain ⟨w5, hr5, m5, t5⟩ := MapV.put_run mapTd (w := w4.drew) (D4.out.m.block rfl) (by have := H.out.n1; unfold maxLen; omega) x (diV ⟨oa, ob, oc, a3, T, c3⟩) hx
  rw [E2, if_pos rfl] at m5
  have hd : diV ⟨oa, ob, oc, a3, T, c3⟩ = .agg #[.slice oa L oc, .slice a3 L c3] := by unfold diV; simp only [HL.out, TLH.out]
  rw [hd] at hr5
  have D5 := Lib.hid ((D4.out.below (w' := w4.drew) (Below.refl _ _).drew).put (x := x) (I4.out.below (Below.refl _ _).drew) ⟨AP.out.1, A4.out⟩ m5 t5 H.out.n1)
  have B5 := Lib.hid (show Below B w w5 from by
    have hB : B ≤ w.heap.size := by have := H.out.dB; have := lt_of_cell H.out.c0; omega
    exact ((B4.out.mono hB).drew).grown t5.grown (Nat.le_trans hB B4.out.size) (fun k e => by cases e; exact H.out.MB))
  have T5 := TurnV.of_mapTurned (F := fun k => k = M) t5 rfl
  have TT := Lib.hid (show Turn (fun k => k = M) w w5 from ((Turn.of_below B4.out).trans (Turn.of_below (Below.refl _ _).drew)).trans T5)
  have pM : p ≠ M := by have := H.out.m.lt; omega
  have x0 : w5.cell? ⟨d, 0, none⟩ = some (.map (some M)) := (T5.cell (w := w4.drew) (lt_of_cell c4) H.out.dM).trans c4
  have x1 : w5.cell? ⟨p, 0, none⟩ = some (.slice oa L oc) := (T5.cell (w := w4.drew) (lt_of_cell y0) pM).trans y0
  have x2 := (T5.cell (w := w4.drew) (lt_of_cell y1) pM).trans y1
  clear m5 t5 E2 hd I4 A4 O4 z0 O3 T5
  go_upto_region 5 with fail
  try rw [hw4]
  clear hw4 z1 zf
  go_region_held3 (fun w' => w'.cell? ⟨d, 0, none⟩ = some (.map (some M)) ∧ w'.cell? ⟨p, 0, none⟩ = some (.slice oa L oc) ∧ w'.cell? ⟨p, 1, none⟩ = some (.slice a3 L c3)) (go_keep) (fail)
  go_wp2_with fail
  go_ret
  exact ⟨rfl, ⟨a3, c3, D5.out, FR.out⟩, B5.out, TT.out⟩
theorem drot_yes (d : Nat) (x at_ xx : Int) (i : DI) {B M n life : Nat} {f : Int → Option DI} (w : World) (h : DAt B d M n f life w) (hx : wfI x) (hf : f x = some i) :
    Calls Tryz.prog 9 #[.pointer (some ⟨d, 0, none⟩), .int .i64 x, .int .i64 at_, .int .i64 xx] w fun e w' => e = .returned (.int .i64 0) ∧ (∃ sa sc, DAt B d M n (fput f x ⟨i.oa, i.ob, i.oc, sa, Dm.turned i.ob at_ xx, sc⟩) life w') ∧ Below B w w' ∧ Turn (fun k => k = M) w w' := by
  refine (drot_new d x at_ xx i w h hx hf).mono ?_
  rintro e w' ⟨he, ⟨sa, sc, hd, -⟩, hb, ht⟩
  exact ⟨he, ⟨sa, sc, hd⟩, hb, ht⟩
set_option maxHeartbeats 1600000 in
theorem dmend_yes (d : Nat) (x : Int) (i : DI) {B M n life : Nat} {f : Int → Option DI} (w : World) (h : DAt B d M n f life w) (hx : wfI x) (hf : f x = some i) :
    Calls Tryz.prog 11 #[.pointer (some ⟨d, 0, none⟩), .int .i64 x] w fun e w' => e = .returned (.int .i64 0) ∧ DAt B d M n (fput f x ⟨i.oa, i.ob, i.oc, i.oa, i.ob, i.oc⟩) life w' ∧ Below B w w' ∧ Turn (fun k => k = M) w w' := by
  have CF := Lib.hid (dfind_yes d x i w h hx hf)
  have K := Lib.hid (h.im x i hf)
  have AP := Lib.hid (h.ap x i hf)
  have H := Lib.hid h
  have HF := Lib.hid hf
  obtain ⟨oa, ob, oc, sa, sb, sc⟩ := i
  simp only at CF K AP ⊢
  obtain ⟨L, hL⟩ : ∃ L, ob.length = L := ⟨_, rfl⟩
  have HL := Lib.hid hL
  rw [hL] at CF
  clear h hf hL
  go_enter Tryz.func11, Tryz.ntmps11
  go_wp2_with fail
  with_reducible refine CF.out.mono ?_
  rintro e w1 ⟨rfl, hb⟩
  have BX := below_one w1 (.cells #[.slice oa L oc, .slice sa sb.length sc] 67)
  have B2 := Lib.hid (hb.trans (BX.mono hb.size))
  obtain ⟨p, hp⟩ : ∃ p, w1.heap.size = p := ⟨_, rfl⟩
  have bx := box2d w1 (.slice oa L oc) (.slice sa sb.length sc) 67
  rw [hp] at bx
  have hwp : w.heap.size ≤ p := by rw [← hp]; exact hb.size
  go_upto_region 4 with fail
  obtain ⟨w3, hw3⟩ : ∃ w3, w1.alloc (.cells #[.slice oa L oc, .slice sa sb.length sc] 67) = w3 := ⟨_, rfl⟩
  rw [hw3] at bx B2 ⊢
  try simp only [hp]
  obtain ⟨z0, z1, bf⟩ := bx
  have zf := bf 1
  clear hb BX CF hp hw3 bf
  obtain ⟨w4, hw4⟩ : ∃ w4, w3.setCell ⟨p, 1, none⟩ (.slice oa L oc) = w4 := ⟨_, rfl⟩
  have B4 := Lib.hid (show Below w.heap.size w w4 from hw4 ▸ B2.out.setCell (p := ⟨p, 1, none⟩) hwp _)
  have y0 : w4.cell? ⟨p, 0, none⟩ = some (.slice oa L oc) := by rw [← hw4, cset_ne (by omega)]; exact z0
  have y1 : w4.cell? ⟨p, 1, none⟩ = some (.slice oa L oc) := by rw [← hw4]; exact cset_at z1
  have D4 := Lib.hid (H.out.below B4.out)
  have I4 := Lib.hid (show ImgK w4 ⟨oa, ob, oc, oa, ob, oc⟩ from ⟨K.out.o.below B4.out, K.out.o.below B4.out, K.out.oc, K.out.oc, K.out.lo, K.out.hi, rfl⟩)
  have c4 := D4.out.c0
  have E2 : (fV f x).isSome = true := by unfold fV; rw [HF.out]; rfl
  obtain ⟨w5, hr5, m5, t5⟩ := MapV.put_run mapTd (w := w4.drew) (D4.out.m.block rfl) (by have := H.out.n1; unfold maxLen; omega) x (diV ⟨oa, ob, oc, oa, ob, oc⟩) hx
  rw [E2, if_pos rfl] at m5
  have hd : diV ⟨oa, ob, oc, oa, ob, oc⟩ = .agg #[.slice oa L oc, .slice oa L oc] := by unfold diV; simp only [HL.out]
  rw [hd] at hr5
  have D5 := Lib.hid ((D4.out.below (w' := w4.drew) (Below.refl _ _).drew).put (x := x) (I4.out.below (Below.refl _ _).drew) ⟨AP.out.1, AP.out.1⟩ m5 t5 H.out.n1)
  have B5 := Lib.hid (show Below B w w5 from by
    have hB : B ≤ w.heap.size := by have := H.out.dB; have := lt_of_cell H.out.c0; omega
    exact ((B4.out.mono hB).drew).grown t5.grown (Nat.le_trans hB B4.out.size) (fun k e => by cases e; exact H.out.MB))
  have T5 := TurnV.of_mapTurned (F := fun k => k = M) t5 rfl
  have TT := Lib.hid (show Turn (fun k => k = M) w w5 from ((Turn.of_below B4.out).trans (Turn.of_below (Below.refl _ _).drew)).trans T5)
  have pM : p ≠ M := by have := H.out.m.lt; omega
  have x0 : w5.cell? ⟨d, 0, none⟩ = some (.map (some M)) := (T5.cell (w := w4.drew) (lt_of_cell c4) H.out.dM).trans c4
  have x1 : w5.cell? ⟨p, 0, none⟩ = some (.slice oa L oc) := (T5.cell (w := w4.drew) (lt_of_cell y0) pM).trans y0
  have x2 := (T5.cell (w := w4.drew) (lt_of_cell y1) pM).trans y1
  clear m5 t5 E2 hd I4 T5
  go_upto_region 5 with fail
  try rw [hw4]
  clear hw4 z0 z1 zf
  go_region_held3 (fun w' => w'.cell? ⟨d, 0, none⟩ = some (.map (some M)) ∧ w'.cell? ⟨p, 0, none⟩ = some (.slice oa L oc) ∧ w'.cell? ⟨p, 1, none⟩ = some (.slice oa L oc)) (go_keep) (fail)
  go_wp2_with fail
  go_ret
  exact ⟨rfl, D5.out, B5.out, TT.out⟩
/-- of what is not there, and of no disk -/
theorem drot_no (d : Nat) (x at_ xx : Int) {B M n life : Nat} {f : Int → Option DI} (w : World) (h : DAt B d M n f life w) (hx : wfI x) (hf : f x = none) :
    Calls Tryz.prog 9 #[.pointer (some ⟨d, 0, none⟩), .int .i64 x, .int .i64 at_, .int .i64 xx] w fun e w' => e = .returned (.int .i64 4) ∧ Below w.heap.size w w' := by
  have CF := Lib.hid (dfind_no d x w h hx hf)
  clear h hf
  go_enter Tryz.func9, Tryz.ntmps9
  go_wp2_with fail
  with_reducible refine CF.out.mono ?_
  rintro e w1 ⟨rfl, hb⟩
  have B1 := Lib.hid (hb.trans ((below_one w1 (.cells #[.slice none 0 0, .slice none 0 0] 67)).mono hb.size))
  clear hb CF
  go_wp2_with fail
  go_ret
  exact ⟨rfl, B1.out⟩
theorem drot_nil (x at_ xx : Int) (w : World) :
    Calls Tryz.prog 9 #[.pointer none, .int .i64 x, .int .i64 at_, .int .i64 xx] w fun e w' => e = .returned (.int .i64 1) ∧ Below w.heap.size w w' := by
  go_enter Tryz.func9, Tryz.ntmps9
  go_wp2_with fail
  refine (dfind_nil x w).mono ?_
  rintro e w1 ⟨rfl, hb⟩
  have B1 := Lib.hid (hb.trans ((below_one w1 (.cells #[.slice none 0 0, .slice none 0 0] 67)).mono hb.size))
  clear hb
  go_wp2_with fail
  go_ret
  exact ⟨rfl, B1.out⟩
theorem dmend_no (d : Nat) (x : Int) {B M n life : Nat} {f : Int → Option DI} (w : World) (h : DAt B d M n f life w) (hx : wfI x) (hf : f x = none) :
    Calls Tryz.prog 11 #[.pointer (some ⟨d, 0, none⟩), .int .i64 x] w fun e w' => e = .returned (.int .i64 4) ∧ Below w.heap.size w w' := by
  have CF := Lib.hid (dfind_no d x w h hx hf)
  clear h hf
  go_enter Tryz.func11, Tryz.ntmps11
  go_wp2_with fail
  with_reducible refine CF.out.mono ?_
  rintro e w1 ⟨rfl, hb⟩
  have B1 := Lib.hid (hb.trans ((below_one w1 (.cells #[.slice none 0 0, .slice none 0 0] 67)).mono hb.size))
  clear hb CF
  go_wp2_with fail
  go_ret
  exact ⟨rfl, B1.out⟩
theorem dmend_nil (x : Int) (w : World) :
    Calls Tryz.prog 11 #[.pointer none, .int .i64 x] w fun e w' => e = .returned (.int .i64 1) ∧ Below w.heap.size w w' := by
  go_enter Tryz.func11, Tryz.ntmps11
  go_wp2_with fail
  refine (dfind_nil x w).mono ?_
  rintro e w1 ⟨rfl, hb⟩
  have B1 := Lib.hid (hb.trans ((below_one w1 (.cells #[.slice none 0 0, .slice none 0 0] 67)).mono hb.size))
  clear hb
  go_wp2_with fail
  go_ret
  exact ⟨rfl, B1.out⟩
end Go.Proofs.YtbbholdadgjelaaGreat
/- An argument that is a slice of integers, opened; its bytes. Of whatever program. -/
namespace Go.Proofs.YtbbholdadgjelaaGreat
open Go.ChangeShapes Go.WideShapes Go.ChangeAt Go.RowKit
open Go.ChangeMaps (open_string shut_string)
set_option linter.unusedVariables false
set_option maxRecDepth 20000

theorem open_ints_arg {H : Type} {enc : TypeId × Value → H} {P : Program} {W : World} {base : Nat} {t e : TypeId} {k : IntKind} {v : Value} {d : DataW H} {p : List MemPlace}
    (ht : P.underlying t = some (.slice e)) (he : P.underlying e = some (.int k)) (hc : P.cellsOf e = 1)
    (o : Value.okWide P W .any base t v) (h : DataW.Trod enc P W 0 (fun _ => true) true t v d p) :
    ∃ a n cap zs, v = .slice a n cap ∧ HoldsI k W a n zs ∧ (a = none → n = 0 ∧ cap = 0) ∧ n ≤ cap ∧ cap ≤ maxLen ∧ ∀ z ∈ zs, (Lit.int k z).wf = true := by
  obtain ⟨a, len, cap, rfl⟩ := okWide_slice ht o
  obtain ⟨fuel, hf⟩ := h
  rcases open_ints ht he hc hf with ⟨hcs, _⟩ | ⟨x, l, c, zs, hcs, _, hl, hm, hz, _, hcell, hwz⟩
  · simp [Value.cells] at hcs
    obtain ⟨rfl, rfl, rfl⟩ := hcs
    exact ⟨none, 0, 0, [], rfl, HoldsI.nil _ _ _, fun _ => ⟨rfl, rfl⟩, Nat.le_refl _, by unfold maxLen; omega, by simp⟩
  · simp [Value.cells] at hcs
    obtain ⟨rfl, rfl, rfl⟩ := hcs
    have hzc : zs.length = cap := by simpa using hz
    refine ⟨some x, len, cap, zs.take len, rfl, ⟨by simp; omega, fun h0 => ?_⟩, (fun h => by cases h), hl, hm, fun z hz => hwz z (List.mem_of_mem_take hz)⟩
    obtain ⟨b, off, rfl, hcc⟩ := ints_at hcell (by omega)
    refine ⟨b, off, rfl, fun i hi => ?_⟩
    rw [hcc i (by omega)]
    congr 2
    simp only [List.getD_eq_getElem?_getD, List.getElem?_take]
    rw [if_pos hi]
theorem u8_of_wf {z : Int} (h : (Lit.int .u8 z).wf = true) : 0 ≤ z ∧ z < 256 := by
  simp [Lit.wf, IntKind.min, IntKind.max, IntKind.signed, IntKind.bits] at h; omega
theorem i64_of_wf {z : Int} (h : (Lit.int .i64 z).wf = true) : -9223372036854775808 ≤ z ∧ z ≤ 9223372036854775807 := by
  simp [Lit.wf, IntKind.min, IntKind.max, IntKind.signed, IntKind.bits] at h; omega
theorem i32_of_wf {z : Int} (h : (Lit.int .i32 z).wf = true) : -2147483648 ≤ z ∧ z ≤ 2147483647 := by
  simp [Lit.wf, IntKind.min, IntKind.max, IntKind.signed, IntKind.bits] at h; omega
end Go.Proofs.YtbbholdadgjelaaGreat
/- lists of keys (a number and a text each) -/
namespace Go.Proofs.YtbbholdadgjelaaGreat
open Go.ChangeShapes Go.WideShapes Go.ChangeAt Go.RowKit
set_option linter.unusedVariables false
set_option maxRecDepth 20000
abbrev KV := Int × Tx
def k0 : KV := (0, ByteArray.empty)
def HoldsK (w : World) (a : Option Addr) (n : Nat) (ks : List KV) : Prop := ks.length = n ∧ (0 < n → ∃ b o, a = some ⟨b, o, none⟩ ∧ ∀ i, i < n → w.cell? ⟨b, o + i * 2, none⟩ = some (.int .i64 (ks.getD i k0).1) ∧ w.cell? ⟨b, o + i * 2 + 1, none⟩ = some (.string (ks.getD i k0).2))
theorem HoldsK.len {w : World} {a : Option Addr} {n : Nat} {ks : List KV} (h : HoldsK w a n ks) : ks.length = n := h.1
theorem HoldsK.at {w : World} {a : Option Addr} {n : Nat} {ks : List KV} (h : HoldsK w a n ks) (h0 : 0 < n) : ∃ b o, a = some ⟨b, o, none⟩ ∧ ∀ i, i < n → w.cell? ⟨b, o + i * 2, none⟩ = some (.int .i64 (ks.getD i k0).1) ∧ w.cell? ⟨b, o + i * 2 + 1, none⟩ = some (.string (ks.getD i k0).2) := h.2 h0
theorem HoldsK.nil (w : World) (a : Option Addr) : HoldsK w a 0 [] := ⟨rfl, fun h => absurd h (by omega)⟩
theorem HoldsK.below {w w' : World} {a : Option Addr} {n : Nat} {ks : List KV} (h : HoldsK w a n ks) (hb : Below w.heap.size w w') : HoldsK w' a n ks := by
  refine ⟨h.1, fun h0 => ?_⟩
  obtain ⟨b, o, ha, hc⟩ := h.2 h0
  have hlt := lt_of_cell (hc 0 h0).1
  refine ⟨b, o, ha, fun i hi => ?_⟩
  rw [hb.cell (p := ⟨b, o + i * 2, none⟩) hlt, hb.cell (p := ⟨b, o + i * 2 + 1, none⟩) hlt]
  exact hc i hi
theorem getD_memK (zs : List KV) (j : Nat) (h : j < zs.length) : zs.getD j k0 ∈ zs := by
  rw [List.getD_eq_getElem?_getD, List.getElem?_eq_getElem h]; simp
def keyV (k : KV) : Value := .agg #[.int .i64 k.1, .string k.2]
def i64okK (z : Int) : Prop := -9223372036854775808 ≤ z ∧ z ≤ 9223372036854775807
def KeyOk (k : KV) : Prop := i64okK k.1 ∧ k.2.size ≤ 9223372036854775807
theorem cellsK_int : Tryz.prog.cellsOf 3 = 1 := by kernel_rfl
theorem cellsK_str : Tryz.prog.cellsOf 9 = 1 := by kernel_rfl
theorem pair_of {H : Type} {enc : TypeId × Value → H} {w : World} {base : Nat} {spare : Nat → Bool} {held : Bool} {fuel : Nat} {t : TypeId} {fs : Array Field} {f0 f1 : Field} {cs : List Value} {x : DataW H × List MemPlace}
    (ht : Tryz.prog.underlying t = some (.struct fs)) (hc : Tryz.prog.cellsOf t = 2) (hf0 : fs[0]? = some f0) (hf1 : fs[1]? = some f1) (g0 : f0.type = 3 ∧ f0.offset = 0) (g1 : f1.type = 9 ∧ f1.offset = 1)
    (h : DataW.trod enc Tryz.prog w base spare held fuel t cs = some x) : ∃ k : KV, KeyOk k ∧ cs = [.int .i64 k.1, .string k.2] := by
  obtain ⟨hl, n, hf⟩ := struct_cells ht h
  rw [hc] at hl
  obtain ⟨c0, c1, rfl⟩ : ∃ c0 c1, cs = [c0, c1] := list2 hl
  obtain ⟨y0, z0⟩ := hf 0 _ hf0
  obtain ⟨y1, z1⟩ := hf 1 _ hf1
  rw [g0.1, g0.2] at z0
  rw [g1.1, g1.2] at z1
  obtain ⟨q1, h1, _, b1⟩ := DataW.trod_int Tryz.underlying3 z0
  obtain ⟨s1, h2, _, b2⟩ := DataW.trod_string Tryz.underlying9 z1
  simp [cellsK_int, cellsK_str] at h1 h2
  subst h1 h2
  exact ⟨(q1, s1), ⟨i64_of_wf b1, by unfold maxLen at b2; exact b2⟩, rfl⟩
theorem open_pairs_arg {H : Type} {enc : TypeId × Value → H} {W : World} {base : Nat} {v : Value} {d : DataW H} {p : List MemPlace} {t e : TypeId} {fs : Array Field} {f0 f1 : Field}
    (ht : Tryz.prog.underlying t = some (.slice e)) (he : Tryz.prog.underlying e = some (.struct fs)) (hc : Tryz.prog.cellsOf e = 2) (hf0 : fs[0]? = some f0) (hf1 : fs[1]? = some f1) (g0 : f0.type = 3 ∧ f0.offset = 0) (g1 : f1.type = 9 ∧ f1.offset = 1)
    (o : Value.okWide Tryz.prog W .any base t v) (h : DataW.Trod enc Tryz.prog W 0 (fun _ => true) true t v d p) :
    ∃ a n cap ks, v = .slice a n cap ∧ HoldsK W a n ks ∧ (a = none → n = 0 ∧ cap = 0) ∧ n ≤ cap ∧ n ≤ 9223372036854775807 ∧ ∀ k ∈ ks, KeyOk k := by
  obtain ⟨a, n, cap, R, rfl, hnil, h1, h2, hg, hc⟩ := open_rows_arg ht hc (by omega) (fun cs => ∃ k : KV, KeyOk k ∧ cs = [.int .i64 k.1, .string k.2]) (fun _ _ _ h => pair_of he hc hf0 hf1 g0 g1 h) o h
  have hx : ∀ i, ∃ k : KV, i < n → KeyOk k ∧ R i = [.int .i64 k.1, .string k.2] := fun i => by
    by_cases hi : i < n
    · obtain ⟨x, h3⟩ := hg i hi
      exact ⟨x, fun _ => h3⟩
    · exact ⟨k0, fun h => absurd h hi⟩
  have hget : ∀ i, i < n → ((List.range n).map fun i => (hx i).choose).getD i k0 = (hx i).choose := fun i hi => by simp [List.getD_eq_getElem?_getD, hi]
  refine ⟨a, n, cap, (List.range n).map fun i => (hx i).choose, rfl, ⟨by simp, fun h0 => ?_⟩, hnil, h1, by unfold maxLen at h2; omega, fun k hk => ?_⟩
  · obtain ⟨b, o, ha, hcell⟩ := hc h0
    refine ⟨b, o, ha, fun i hi => ?_⟩
    have e := ((hx i).choose_spec hi).2
    have c0 := hcell i hi 0 (by omega)
    have c1 := hcell i hi 1 (by omega)
    rw [e] at c0 c1
    rw [hget i hi]
    exact ⟨by simpa using c0, by simpa using c1⟩
  · obtain ⟨i, hi, rfl⟩ := List.mem_map.1 hk
    exact ((hx i).choose_spec (by simpa using hi)).1
theorem open_pair {H : Type} {enc : TypeId × Value → H} {w : World} {base : Nat} {spare : Nat → Bool} {held : Bool} {r : Reach} {b0 : Nat} {v : Value} {d : DataW H} {p : List MemPlace} {e : TypeId} {fs : Array Field} {f0 f1 : Field}
    (he : Tryz.prog.underlying e = some (.struct fs)) (hc : Tryz.prog.cellsOf e = 2) (hf0 : fs[0]? = some f0) (hf1 : fs[1]? = some f1) (g0 : f0.type = 3 ∧ f0.offset = 0) (g1 : f1.type = 9 ∧ f1.offset = 1)
    (hv : Value.okWide Tryz.prog w r b0 e v) (h : DataW.Trod enc Tryz.prog w base spare held e v d p) : ∃ k : KV, KeyOk k ∧ v = keyV k := by
  obtain ⟨cs, rfl, hsz⟩ := okWide_struct he hv
  obtain ⟨fuel, hf⟩ := h
  obtain ⟨x, hx, h1⟩ := pair_of he hc hf0 hf1 g0 g1 hf
  refine ⟨x, hx, ?_⟩
  unfold keyV
  congr 1
  apply Array.toList_inj.1
  simpa [Value.cells] using h1
/-! the order of keys -/
def ordK (a b : KV) : Int := if a.1 < b.1 then -1 else if b.1 < a.1 then 1 else cmpS a.2 b.2
def lessK (a b : KV) : Bool := decide (ordK a b < 0)
theorem ordK_bd (a b : KV) : ordK a b = -1 ∨ ordK a b = 0 ∨ ordK a b = 1 := by
  unfold ordK; split
  · simp
  · split
    · simp
    · exact cmpS_bd _ _
theorem ordK_swap (a b : KV) : ordK b a = - ordK a b := by
  unfold ordK
  rcases Int.lt_trichotomy a.1 b.1 with h | h | h
  · rw [if_pos h, if_neg (by omega), if_pos h]; rfl
  · rw [if_neg (by omega), if_neg (by omega), if_neg (by omega), if_neg (by omega), cmpS_swap]
  · rw [if_pos h, if_neg (by omega), if_pos h]
theorem ordK_lt {a b : KV} : ordK a b < 0 ↔ a.1 < b.1 ∨ (a.1 = b.1 ∧ cmpS a.2 b.2 < 0) := by
  unfold ordK
  rcases Int.lt_trichotomy a.1 b.1 with h | h | h
  · rw [if_pos h]; simp [h]
  · rw [if_neg (by omega), if_neg (by omega)]
    constructor
    · intro k; exact Or.inr ⟨h, k⟩
    · rintro (k | k)
      · omega
      · exact k.2
  · rw [if_neg (by omega), if_pos h]
    constructor
    · intro k; omega
    · rintro (k | k) <;> omega
theorem ordK_zero {a b : KV} : ordK a b = 0 ↔ a = b := by
  unfold ordK
  rcases Int.lt_trichotomy a.1 b.1 with h | h | h
  · rw [if_pos h]; constructor
    · intro k; omega
    · intro k; rw [k] at h; omega
  · rw [if_neg (by omega), if_neg (by omega), cmpS_zero]
    exact ⟨fun k => Prod.ext h k, fun k => by rw [k]⟩
  · rw [if_neg (by omega), if_pos h]; constructor
    · intro k; omega
    · intro k; rw [k] at h; omega
theorem ordK_trans {a b c : KV} (h : ordK a b < 0) (k : ordK b c < 0) : ordK a c < 0 := by
  rw [ordK_lt] at *
  rcases h with h | ⟨h, h'⟩ <;> rcases k with k | ⟨k, k'⟩
  · exact Or.inl (by omega)
  · exact Or.inl (by omega)
  · exact Or.inl (by omega)
  · exact Or.inr ⟨by omega, cmpS_trans h' k'⟩
theorem ordK_irrefl (a : KV) : ¬ ordK a a < 0 := by rw [ordK_zero.2 rfl]; omega
/-- not above, one behind the other -/
theorem ordK_le_trans {a b c : KV} (h : ¬ ordK b a < 0) (k : ¬ ordK c b < 0) : ¬ ordK c a < 0 := by
  intro h3
  rcases ordK_bd a b with e | e | e
  · exact k (ordK_trans h3 (by omega))
  · rw [ordK_zero.1 e] at h3; exact k h3
  · rw [ordK_swap] at h; omega
end Go.Proofs.YtbbholdadgjelaaGreat
/- contracts: cmp.Compare of numbers, cmp.Or; which of two keys is ahead -/
namespace Go.Proofs.YtbbholdadgjelaaGreat
open Go.RowKit
set_option linter.unusedVariables false
set_option maxRecDepth 20000
theorem isNaNI_any (x : Int) (w : World) : Calls Tryz.prog 100 #[.int .i64 x] w fun e w' => e = .returned (.bool false) ∧ w = w' := by
  go_enter Tryz.func100, Tryz.ntmps100
  go_wp2
  go_ret
  exact ⟨ret_bool (by simp), rfl⟩
def cmpZ (x y : Int) : Int := if x < y then -1 else if y < x then 1 else 0
theorem compareZ_any (x y : Int) (w : World) : Calls Tryz.prog 86 #[.int .i64 x, .int .i64 y] w fun e w' => e = .returned (.int .i64 (cmpZ x y)) ∧ w = w' := by
  rcases Int.lt_trichotomy x y with h | h | h
  · have hv : cmpZ x y = -1 := by unfold cmpZ; rw [if_pos h]
    have x1 : decide (x < y) = true := decide_eq_true h
    rw [hv]
    go_enter Tryz.func86, Tryz.ntmps86
    go_wp2_with fail
    refine (isNaNI_any x _).mono ?_
    rintro e w' ⟨rfl, rfl⟩
    go_wp2_with fail
    refine (isNaNI_any y _).mono ?_
    rintro e w' ⟨rfl, rfl⟩
    go_wp2_with fail
    go_ret
    exact ⟨rfl, rfl⟩
  · subst h
    have hv : cmpZ x x = 0 := by unfold cmpZ; rw [if_neg (by omega), if_neg (by omega)]
    rw [hv]
    go_enter Tryz.func86, Tryz.ntmps86
    go_wp2_with fail
    refine (isNaNI_any x _).mono ?_
    rintro e w' ⟨rfl, rfl⟩
    go_wp2_with fail
    refine (isNaNI_any x _).mono ?_
    rintro e w' ⟨rfl, rfl⟩
    go_wp2_with fail
    go_ret
    exact ⟨rfl, rfl⟩
  · have hv : cmpZ x y = 1 := by unfold cmpZ; rw [if_neg (by omega), if_pos h]
    have x1 : decide (x < y) = false := decide_eq_false (by omega)
    have x2 : decide (x > y) = true := decide_eq_true h
    rw [hv]
    go_enter Tryz.func86, Tryz.ntmps86
    go_wp2_with fail
    refine (isNaNI_any x _).mono ?_
    rintro e w' ⟨rfl, rfl⟩
    go_wp2_with fail
    refine (isNaNI_any y _).mono ?_
    rintro e w' ⟨rfl, rfl⟩
    go_wp2_with fail
    go_ret
    exact ⟨rfl, rfl⟩
def orZ (x y : Int) : Int := if x = 0 then y else x
theorem or_any (b o : Nat) (x y : Int) (w : World) (h0 : w.cell? ⟨b, o, none⟩ = some (.int .i64 x)) (h1 : w.cell? ⟨b, o + 1, none⟩ = some (.int .i64 y)) :
    Calls Tryz.prog 85 #[.slice (some ⟨b, o, none⟩) 2 2] w fun e w' => e = .returned (.int .i64 (orZ x y)) ∧ w = w' := by
  by_cases hx : x = 0
  · subst hx
    have hv : orZ 0 y = y := rfl
    have x1 : ((0 : Int) != 0) = false := rfl
    rw [hv]
    by_cases hy : y = 0
    · subst hy
      go_enter Tryz.func85, Tryz.ntmps85
      go_wp2_with fail
      go_loop [8] (fun iv => ∃ i : Nat, i ≤ 2 ∧ iv = .int .i64 i) (fun iv => 2 - (intOf iv).toNat)
      case atStart => exact ⟨0, by omega, rfl⟩
      case round =>
        obtain ⟨i, hi, rfl⟩ := hrel
        have hc : i = 0 ∨ i = 1 ∨ i = 2 := by omega
        rcases hc with rfl | rfl | rfl
        · go_wp2_with fail
          go_round
          case rel => exact ⟨1, by omega, by go_num⟩
          case measure => simp [intOf]
        · go_wp2_with fail
          go_round
          case rel => exact ⟨2, by omega, by go_num⟩
          case measure => simp [intOf]
        · go_wp2_with fail
          go_ret
          exact ⟨rfl, rfl⟩
    · have x2 : (y != 0) = true := by simp [hy]
      go_enter Tryz.func85, Tryz.ntmps85
      go_wp2_with fail
      go_loop [8] (fun iv => ∃ i : Nat, i ≤ 1 ∧ iv = .int .i64 i) (fun iv => 2 - (intOf iv).toNat)
      case atStart => exact ⟨0, by omega, rfl⟩
      case round =>
        obtain ⟨i, hi, rfl⟩ := hrel
        have hc : i = 0 ∨ i = 1 := by omega
        rcases hc with rfl | rfl
        · go_wp2_with fail
          go_round
          case rel => exact ⟨1, by omega, by go_num⟩
          case measure => simp [intOf]
        · go_wp2_with fail
          go_ret
          exact ⟨rfl, rfl⟩
  · have x2 : (x != 0) = true := by simp [hx]
    have hv : orZ x y = x := if_neg hx
    rw [hv]
    go_enter Tryz.func85, Tryz.ntmps85
    go_wp2_with fail
    go_loop [8] (fun iv => iv = .int .i64 0) (fun iv => 0)
    case atStart => rfl
    case round =>
      obtain rfl := hrel
      go_wp2_with fail
      go_ret
      exact ⟨rfl, rfl⟩
theorem ordK_or (a b : KV) : ordK a b = orZ (cmpZ a.1 b.1) (cmpS a.2 b.2) := by
  unfold ordK orZ cmpZ
  rcases Int.lt_trichotomy a.1 b.1 with h | h | h
  · simp [h]
  · have h1 : ¬ a.1 < b.1 := by omega
    have h2 : ¬ b.1 < a.1 := by omega
    simp [h1, h2]
  · have h1 : ¬ a.1 < b.1 := by omega
    simp [h, h1]
end Go.Proofs.YtbbholdadgjelaaGreat
/- which of two keys is ahead -/
namespace Go.Proofs.YtbbholdadgjelaaGreat
open Go.RowKit
set_option linter.unusedVariables false
set_option maxRecDepth 20000
def Box4 (w0 : World) (p q : Nat) (v0 v1 v2 v3 : Value) (w : World) : Prop := Below w0.heap.size w0 w ∧ w.cell? ⟨p, 0, none⟩ = some v0 ∧ w.cell? ⟨p, 1, none⟩ = some v1 ∧ w.cell? ⟨q, 0, none⟩ = some v2 ∧ w.cell? ⟨q, 1, none⟩ = some v3
theorem box4_carry {w0 w w' : World} {p q : Nat} {v0 v1 v2 v3 : Value} (h : Box4 w0 p q v0 v1 v2 v3 w) (hb : Below w.heap.size w w') : Box4 w0 p q v0 v1 v2 v3 w' :=
  ⟨h.1.trans (hb.mono h.1.size), by rw [hb.cell (p := ⟨p, 0, none⟩) (lt_of_cell h.2.1)]; exact h.2.1, by rw [hb.cell (p := ⟨p, 1, none⟩) (lt_of_cell h.2.1)]; exact h.2.2.1, by rw [hb.cell (p := ⟨q, 0, none⟩) (lt_of_cell h.2.2.2.1)]; exact h.2.2.2.1, by rw [hb.cell (p := ⟨q, 1, none⟩) (lt_of_cell h.2.2.2.1)]; exact h.2.2.2.2⟩
set_option maxHeartbeats 3200000 in
theorem order_any (a b : KV) (w : World) :
    Calls Tryz.prog 68 #[keyV a, keyV b] w fun e w' => e = .returned (.int .i64 (ordK a b)) ∧ Below w.heap.size w w' := by
  obtain ⟨a1, a2⟩ := a
  obtain ⟨b1, b2⟩ := b
  have hv := ordK_or (a1, a2) (b1, b2)
  obtain ⟨v, hv2⟩ : ∃ v, ordK (a1, a2) (b1, b2) = v := ⟨_, rfl⟩
  rw [hv2] at hv ⊢
  simp only at hv
  unfold keyV
  simp only
  have C1 := Lib.hid (fun w => compareZ_any a1 b1 w)
  have C2 := Lib.hid (fun w => compare_any a2 b2 w)
  obtain ⟨x, hx⟩ : ∃ x, cmpZ a1 b1 = x := ⟨_, rfl⟩
  obtain ⟨y, hy⟩ : ∃ y, cmpS a2 b2 = y := ⟨_, rfl⟩
  rw [hx] at C1 hv; rw [hy] at C2 hv
  have HV := Lib.hid hv
  clear hv hv2 hx hy
  go_enter Tryz.func68, Tryz.ntmps68
  go_upto_region 1 with fail
  have e0 : ((w.alloc (.cells #[.int .i64 a1, .string a2] 57)).alloc (.cells #[.int .i64 b1, .string b2] 57)).cell? ⟨w.heap.size, 0, none⟩ = some (.int .i64 a1) := by simp
  have e1 : ((w.alloc (.cells #[.int .i64 a1, .string a2] 57)).alloc (.cells #[.int .i64 b1, .string b2] 57)).cell? ⟨w.heap.size, 1, none⟩ = some (.string a2) := by simp
  have e2 : ((w.alloc (.cells #[.int .i64 a1, .string a2] 57)).alloc (.cells #[.int .i64 b1, .string b2] 57)).cell? ⟨w.heap.size + 1, 0, none⟩ = some (.int .i64 b1) := by simp
  have e3 : ((w.alloc (.cells #[.int .i64 a1, .string a2] 57)).alloc (.cells #[.int .i64 b1, .string b2] 57)).cell? ⟨w.heap.size + 1, 1, none⟩ = some (.string b2) := by simp
  have BB := Lib.hid ((Below.refl w.heap.size w).alloc (Nat.le_refl _) (.cells #[.int .i64 a1, .string a2] 57) |>.alloc (by simp) (.cells #[.int .i64 b1, .string b2] 57))
  generalize (w.alloc (.cells #[.int .i64 a1, .string a2] 57)).alloc (.cells #[.int .i64 b1, .string b2] 57) = w1 at *
  obtain ⟨p, hp⟩ : ∃ p, w.heap.size = p := ⟨_, rfl⟩
  obtain ⟨q, hq⟩ : ∃ q, w.heap.size + 1 = q := ⟨_, rfl⟩
  rw [hq] at e2 e3 ⊢
  have T := Lib.hid (show Box4 w1 w.heap.size q (.int .i64 a1) (.string a2) (.int .i64 b1) (.string b2) w1 from ⟨Below.refl _ _, e0, e1, e2, e3⟩)
  clear e0 e1 e2 e3 hq hp
  go_region_held3 (fun w' => Below w1.heap.size w1 w' ∧ w'.cell? ⟨w.heap.size, 0, none⟩ = some (.int .i64 a1) ∧ w'.cell? ⟨w.heap.size, 1, none⟩ = some (.string a2) ∧ w'.cell? ⟨q, 0, none⟩ = some (.int .i64 b1) ∧ w'.cell? ⟨q, 1, none⟩ = some (.string b2))
    (first | assumption | exact box4_carry T.out (below_drewN w1 _) | exact box4_carry T.out (Below.refl _ _).drew | exact box4_carry (by assumption) (below_one _ _) | exact box4_carry (by assumption) (by assumption))
    (first
      | (go_at_call 86; refine (C1.out _).mono ?_; rintro e w' ⟨rfl, rfl⟩)
      | (go_at_call 52; refine (C2.out _).mono ?_; rintro e w' ⟨rfl, rfl⟩)
      | (go_at_call 85; refine (or_any _ _ x y _ (by simp) (by simp)).mono ?_; rintro e w' ⟨rfl, rfl⟩))
  rename_i T5
  obtain ⟨hb5, -⟩ := T5
  go_wp2_with fail
  go_ret
  exact ⟨ret_int HV.out.symm, BB.out.trans (hb5.mono BB.out.size)⟩
end Go.Proofs.YtbbholdadgjelaaGreat
/- contracts of part.Less, may, Of, Lens, Least -/
namespace Go.Proofs.YtbbholdadgjelaaGreat
open Go.RowKit
set_option linter.unusedVariables false
set_option maxRecDepth 20000
theorem order_lit (a b : KV) (v : Int) (hv : ordK a b = v) (w : World) :
    Calls Tryz.prog 68 #[keyV a, keyV b] w fun e w' => e = .returned (.int .i64 v) ∧ Below w.heap.size w w' := by subst hv; exact order_any a b w
theorem box2 (w : World) (x y : Value) (t : TypeId) : ((w.alloc (.cells #[x] t)).alloc (.cells #[y] t)).heap.size = w.heap.size + 2 := by simp
theorem pless_any (a b : KV) (w : World) :
    Calls Tryz.prog 54 #[keyV a, keyV b] w fun e w' => e = .returned (.bool (lessK a b)) ∧ Below w.heap.size w w' := by
  unfold lessK
  have C := Lib.hid (fun w => order_any a b w)
  obtain ⟨v, hv⟩ : ∃ v, ordK a b = v := ⟨_, rfl⟩
  rw [hv] at C ⊢
  clear hv
  obtain ⟨a1, a2⟩ := a
  obtain ⟨b1, b2⟩ := b
  unfold keyV at C ⊢
  simp only at C ⊢
  go_enter Tryz.func54, Tryz.ntmps54
  go_wp2_with fail
  refine (C.out _).mono ?_
  rintro e w' ⟨rfl, hb⟩
  go_wp2_with fail
  go_ret
  exact ⟨rfl, ((Below.refl w.heap.size w).alloc (Nat.le_refl _) _ |>.alloc (by simp) _).trans (hb.mono (by simp; omega))⟩
theorem pless_lit (a b : KV) (c : Bool) (hc : lessK a b = c) (w : World) :
    Calls Tryz.prog 54 #[keyV a, keyV b] w fun e w' => e = .returned (.bool c) ∧ Below w.heap.size w w' := by subst hc; exact pless_any a b w
def mayK (k : KV) : Prop := 1 ≤ k.1 ∧ k.1 ≤ 12 ∧ 0 ≤ lenS k.2 ∧ lenS k.2 ≤ 12
instance (k : KV) : Decidable (mayK k) := by unfold mayK; infer_instance
theorem may_any (k : KV) (hk : KeyOk k) (w : World) :
    Calls Tryz.prog 53 #[keyV k] w fun e w' => e = .returned (.bool (decide (mayK k))) ∧ Below w.heap.size w w' := by
  obtain ⟨c, hcv⟩ : ∃ c, decide (mayK k) = c := ⟨_, rfl⟩
  rw [hcv]
  have hm : c = true ↔ mayK k := by rw [← hcv]; exact decide_eq_true_iff
  clear hcv
  obtain ⟨k1, k2⟩ := k
  have hb1 := hk.1
  unfold i64okK at hb1
  have C := Lib.hid (fun w => len_any k2 w hk.2)
  unfold mayK at hm
  unfold keyV
  simp only at hb1 hm ⊢
  have hs := hk.2
  simp only at hs
  obtain ⟨n, hn⟩ : ∃ n, lenS k2 = n := ⟨_, rfl⟩
  have hnb : -1 ≤ n ∧ n ≤ 9223372036854775807 := by rw [← hn]; have := lenS_bd k2; omega
  simp only [hn] at C hm
  clear hn hk
  have hcase : (k1 < 1 ∧ c = false) ∨ (1 ≤ k1 ∧ 12 < k1 ∧ c = false) ∨ (1 ≤ k1 ∧ k1 ≤ 12 ∧ n < 0 ∧ c = false) ∨ (1 ≤ k1 ∧ k1 ≤ 12 ∧ 0 ≤ n ∧ 12 < n ∧ c = false) ∨ (1 ≤ k1 ∧ k1 ≤ 12 ∧ 0 ≤ n ∧ n ≤ 12 ∧ c = true) := by
    cases c <;> simp at hm ⊢ <;> omega
  clear hm
  rcases hcase with ⟨h, rfl⟩ | ⟨h, h2, rfl⟩ | ⟨h, h2, h3, rfl⟩ | ⟨h, h2, h3, h4, rfl⟩ | ⟨h, h2, h3, h4, rfl⟩
  all_goals
    first
      | have x1 : decide (k1 ≥ 1) = false := by rw [decide_eq_false_iff_not]; omega
      | have x1 : decide (k1 ≥ 1) = true := by rw [decide_eq_true_iff]; omega
    first
      | have x2 : decide (k1 ≤ 12) = false := by rw [decide_eq_false_iff_not]; omega
      | have x2 : decide (k1 ≤ 12) = true := by rw [decide_eq_true_iff]; omega
      | skip
    first
      | have x3 : decide (n ≥ 0) = false := by rw [decide_eq_false_iff_not]; omega
      | have x3 : decide (n ≥ 0) = true := by rw [decide_eq_true_iff]; omega
      | skip
    first
      | have x4 : decide (n ≤ 12) = false := by rw [decide_eq_false_iff_not]; omega
      | have x4 : decide (n ≤ 12) = true := by rw [decide_eq_true_iff]; omega
      | skip
    have hcell : ∀ w', Below (w.alloc (.cells #[.int .i64 k1, .string k2] 57)).heap.size (w.alloc (.cells #[.int .i64 k1, .string k2] 57)) w' → w'.cell? ⟨w.heap.size, 0, none⟩ = some (.int .i64 k1) := fun w' hb => by
      rw [hb.cell (p := ⟨w.heap.size, 0, none⟩) (by simp)]; simp
    have HC := Lib.hid hcell
    clear hcell
    go_enter Tryz.func53, Tryz.ntmps53
    go_wp2_with fail
    refine (C.out _).mono ?_
    rintro e w' ⟨rfl, hb⟩
    have e1 := HC.out w' hb
    go_wp2_with fail
    go_ret
    exact ⟨rfl, (below_one w _).trans (hb.mono (by simp))⟩
theorem word_bool' {w : World} (s : Tx) (b : Bool) (hs : s.size ≤ 9223372036854775807) (hb : decide (wordP s) = b) :
    Calls Tryz.prog 51 #[.string s] w fun e w' => e = .returned (.bool b) ∧ Below w.heap.size w w' := by subst hb; exact word_any s w hs
/-! which shard a word belongs to -/
def keyOf (t : Tx) : KV := (lenS t, t)
def ofN (ks : List KV) (k : KV) : Nat := ks.findIdx fun c => decide (ordK k c < 0)
theorem ofN_le (ks : List KV) (k : KV) : ofN ks k ≤ ks.length := List.findIdx_le_length
def ofZ (ks : List KV) (t : Tx) : Int := if wordP t then ofN ks (keyOf t) else -1
theorem closure_any (B : Nat) (k c : KV) (w : World) (h0 : w.cell? ⟨B, 0, none⟩ = some (.int .i64 k.1)) (h1 : w.cell? ⟨B, 1, none⟩ = some (.string k.2)) :
    Calls Tryz.prog 94 #[keyV c, .pointer (some ⟨B, 0, none⟩)] w fun e w' => e = .returned (.bool (decide (ordK k c < 0))) ∧ Below w.heap.size w w' := by
  have C := Lib.hid (fun w => order_any k c w)
  obtain ⟨v, hv⟩ : ∃ v, ordK k c = v := ⟨_, rfl⟩
  rw [hv] at C ⊢
  clear hv
  obtain ⟨k1, k2⟩ := k
  obtain ⟨c1, c2⟩ := c
  unfold keyV at C ⊢
  simp only at C h0 h1 ⊢
  have e0 : (w.alloc (.cells #[.int .i64 c1, .string c2] 57)).cell? ⟨B, 0, none⟩ = some (.int .i64 k1) := by
    rw [(below_one w (.cells #[.int .i64 c1, .string c2] 57)).cell (p := ⟨B, 0, none⟩) (lt_of_cell h0)]; exact h0
  have e1 : (w.alloc (.cells #[.int .i64 c1, .string c2] 57)).cell? ⟨B, 1, none⟩ = some (.string k2) := by
    rw [(below_one w (.cells #[.int .i64 c1, .string c2] 57)).cell (p := ⟨B, 1, none⟩) (lt_of_cell h1)]; exact h1
  go_enter Tryz.func94, Tryz.ntmps94
  go_wp2_with fail
  refine (C.out _).mono ?_
  rintro e w' ⟨rfl, hb⟩
  go_wp2_with fail
  go_ret
  exact ⟨rfl, (below_one w _).trans (hb.mono (by simp))⟩
theorem findIdx_take {α : Type} (p : α → Bool) (xs : List α) (z : α) (j : Nat) (hj : j < xs.length) (h : ∀ x ∈ xs.take j, p x = false) (hp : p (xs.getD j z) = true) : xs.findIdx p = j := by
  rw [List.findIdx_eq hj]
  have e : xs.getD j z = xs[j] := by simp [List.getD_eq_getElem?_getD, hj]
  refine ⟨by rw [← e]; exact hp, fun i hi => ?_⟩
  have h1 := h xs[i] (by rw [List.mem_take_iff_getElem]; exact ⟨i, by omega, rfl⟩)
  simpa using h1
theorem findIdx_none {α : Type} (p : α → Bool) (xs : List α) (h : ∀ x ∈ xs, p x = false) : xs.findIdx p = xs.length := by
  rw [List.findIdx_eq_length]; exact h
def idxZ (ks : List KV) (k : KV) : Int := if ofN ks k < ks.length then ofN ks k else -1
set_option maxHeartbeats 1600000 in
theorem index_any (a : Option Addr) (n cap B : Nat) (ks : List KV) (k : KV) (w : World) (hh : HoldsK w a n ks) (hn : n ≤ 9223372036854775807) (h0 : w.cell? ⟨B, 0, none⟩ = some (.int .i64 k.1)) (h1 : w.cell? ⟨B, 1, none⟩ = some (.string k.2)) :
    Calls Tryz.prog 93 #[.slice a n cap, .func (.func 94) #[] #[.pointer (some ⟨B, 0, none⟩)]] w fun e w' => e = .returned (.int .i64 (idxZ ks k)) ∧ Below w.heap.size w w' := by
  have hl := hh.len
  have BK := Lib.hid (fun (w3 : World) (hb : Below w.heap.size w w3) => show w3.cell? ⟨B, 0, none⟩ = some (.int .i64 k.1) ∧ w3.cell? ⟨B, 1, none⟩ = some (.string k.2) from ⟨(hb.cell (p := ⟨B, 0, none⟩) (lt_of_cell h0)).trans h0, (hb.cell (p := ⟨B, 1, none⟩) (lt_of_cell h1)).trans h1⟩)
  clear h0 h1
  go_enter Tryz.func93, Tryz.ntmps93
  go_wp2_with fail
  go_loopw [8] (fun iv wr => ∃ j : Nat, j ≤ n ∧ iv = .int .i64 j ∧ Hid (∀ c ∈ ks.take j, decide (ordK k c < 0) = false) ∧ Hid (Below w.heap.size w wr)) (fun iv _ => n - (intOf iv).toNat)
  case atStart => exact ⟨0, by omega, rfl, Lib.hid (by simp), Lib.hid (Below.refl _ _)⟩
  case round =>
    obtain ⟨j, hj, rfl, hS, hB⟩ := hrel
    by_cases hlt : j < n
    · obtain ⟨b, o, rfl, hc⟩ := (hh.below hB.out).at (by omega)
      obtain ⟨e1, e2⟩ := hc j hlt
      have htk := take_succ_getD ks k0 j (by omega)
      obtain ⟨x, hx⟩ : ∃ x, ks.getD j k0 = x := ⟨_, rfl⟩
      rw [hx] at e1 e2 htk
      have HX := Lib.hid hx; have HT := Lib.hid htk
      clear hx htk hc
      have CL := Lib.hid (closure_any B k x wr (BK.out _ hB.out).1 (BK.out _ hB.out).2)
      unfold keyV at CL
      by_cases hp : ordK k x < 0
      · rw [decide_eq_true hp] at CL
        have hf := findIdx_take (fun c => decide (ordK k c < 0)) ks k0 j (by omega) hS.out (by rw [HX.out]; exact decide_eq_true hp)
        have hv : Hid (idxZ ks k = (j : Int)) := Lib.hid (by unfold idxZ ofN; rw [hf, if_pos (by omega)])
        clear hf hp
        go_wp2_with fail
        refine CL.out.mono ?_
        rintro e w2 ⟨rfl, hb2⟩
        go_wp2_with fail
        go_ret
        exact ⟨ret_int hv.out.symm, hB.out.trans (hb2.mono hB.out.size)⟩
      · rw [decide_eq_false hp] at CL
        have HP := Lib.hid (decide_eq_false hp)
        clear hp
        go_wp2_with fail
        refine CL.out.mono ?_
        rintro e w2 ⟨rfl, hb2⟩
        go_wp2_with fail
        go_roundw
        case rel => exact ⟨j + 1, by omega, by go_num, Lib.hid (by rw [HT.out]; intro z hz; rcases List.mem_append.1 hz with hz | hz; exact hS.out z hz; simp at hz; rw [hz]; exact HP.out), Lib.hid (hB.out.trans (hb2.mono hB.out.size))⟩
        case measure => simp [intOf]; omega
    · have hjn : ks.take j = ks := List.take_of_length_le (by omega)
      have hS2 := hS.out
      rw [hjn] at hS2
      have hf := findIdx_none (fun c => decide (ordK k c < 0)) ks hS2
      have hv : Hid (idxZ ks k = -1) := Lib.hid (by unfold idxZ ofN; rw [hf, if_neg (by omega)])
      clear hjn hS2 hf
      go_wp2_with fail
      go_ret
      exact ⟨ret_int hv.out.symm, hB.out⟩
theorem pof_any (a : Option Addr) (n cap : Nat) (ks : List KV) (t : Tx) (w : World) (hh : HoldsK w a n ks) (hn : n ≤ 9223372036854775807) (ht : t.size ≤ 9223372036854775807) :
    Calls Tryz.prog 77 #[.slice a n cap, .string t] w fun e w' => e = .returned (.int .i64 (ofZ ks t)) ∧ Below w.heap.size w w' := by
  have hl := hh.len
  have HL := Lib.hid (fun w => len_any t w ht)
  by_cases hw : wordP t
  · have hof : Hid (ofZ ks t = ofN ks (keyOf t)) := Lib.hid (if_pos hw)
    have HW := Lib.hid (fun w => @word_bool' w t true ht (decide_eq_true hw))
    have hle := ofN_le ks (keyOf t)
    have hI := Lib.hid (fun B w1 (h : HoldsK w1 a n ks) h0 h1 => index_any a n cap B ks (keyOf t) w1 h hn h0 h1)
    unfold keyOf at hI hle
    simp only at hI
    have hix : Hid (idxZ ks (lenS t, t) = if ofN ks (lenS t, t) < n then (ofN ks (lenS t, t) : Int) else -1) := Lib.hid (by unfold idxZ; rw [hl])
    have hof2 : Hid (ofZ ks t = ofN ks (lenS t, t)) := hof
    obtain ⟨L, hL⟩ : ∃ L, lenS t = L := ⟨_, rfl⟩
    rw [hL] at HL hI hle hix hof2
    obtain ⟨m, hm⟩ : ∃ m, ofN ks (L, t) = m := ⟨_, rfl⟩
    rw [hm] at hle hix hof2
    obtain ⟨v, hv⟩ : ∃ v, idxZ ks (L, t) = v := ⟨_, rfl⟩
    rw [hv] at hI hix
    clear hL hm hv hof hw
    by_cases hlt : m < n
    · have hvm : v = (m : Int) := by rw [hix.out, if_pos hlt]
      subst hvm
      go_enter Tryz.func77, Tryz.ntmps77
      go_wp2_with fail
      refine (HW.out _).mono ?_
      rintro e w1 ⟨rfl, hb1⟩
      go_wp2_with fail
      refine (HL.out _).mono ?_
      rintro e w2 ⟨rfl, hb2⟩
      have hbb := hb1.trans (hb2.mono hb1.size)
      have B2 := Lib.hid (hbb.trans ((below_one w2 (.cells #[.int .i64 L, .string t] 57)).mono hbb.size))
      go_wp2_with fail
      refine (hI.out w2.heap.size _ (hh.below B2.out) (by simp) (by simp)).mono ?_
      rintro e w3 ⟨rfl, hb3⟩
      go_wp2_with fail
      go_ret
      exact ⟨ret_int hof2.out.symm, B2.out.trans (hb3.mono B2.out.size)⟩
    · have hvm : v = -1 := by rw [hix.out, if_neg hlt]
      have hmn : m = n := by omega
      subst hvm hmn
      go_enter Tryz.func77, Tryz.ntmps77
      go_wp2_with fail
      refine (HW.out _).mono ?_
      rintro e w1 ⟨rfl, hb1⟩
      go_wp2_with fail
      refine (HL.out _).mono ?_
      rintro e w2 ⟨rfl, hb2⟩
      have hbb := hb1.trans (hb2.mono hb1.size)
      have B2 := Lib.hid (hbb.trans ((below_one w2 (.cells #[.int .i64 L, .string t] 57)).mono hbb.size))
      go_wp2_with fail
      refine (hI.out w2.heap.size _ (hh.below B2.out) (by simp) (by simp)).mono ?_
      rintro e w3 ⟨rfl, hb3⟩
      go_wp2_with fail
      go_ret
      exact ⟨ret_int hof2.out.symm, B2.out.trans (hb3.mono B2.out.size)⟩
  · have hof : Hid (ofZ ks t = -1) := Lib.hid (if_neg hw)
    have HW := Lib.hid (fun w => @word_bool' w t false ht (decide_eq_false hw))
    clear hw
    go_enter Tryz.func77, Tryz.ntmps77
    go_wp2_with fail
    refine (HW.out _).mono ?_
    rintro e w1 ⟨rfl, hb1⟩
    go_wp2_with fail
    go_ret
    exact ⟨ret_int hof.out.symm, hb1⟩
theorem pof_lit (a : Option Addr) (n cap : Nat) (ks : List KV) (t : Tx) (v : Int) (w : World) (hh : HoldsK w a n ks) (hn : n ≤ 9223372036854775807) (ht : t.size ≤ 9223372036854775807) (hv : ofZ ks t = v) :
    Calls Tryz.prog 77 #[.slice a n cap, .string t] w fun e w' => e = .returned (.int .i64 v) ∧ Below w.heap.size w w' := by subst hv; exact pof_any a n cap ks t w hh hn ht
end Go.Proofs.YtbbholdadgjelaaGreat
/- contracts of part.Lens, Least, Slice -/
namespace Go.Proofs.YtbbholdadgjelaaGreat
open Go.RowKit
set_option linter.unusedVariables false
set_option maxRecDepth 20000
theorem not_empty {x : Tx} (h : x ≠ ByteArray.empty) : x.toList.isEmpty = false := by
  rw [List.isEmpty_eq_false_iff]
  intro h2
  exact h (toList_inj (h2.trans (by rw [ByteArray.toList_eq]; rfl)))
def loK (ks : List KV) (s : Nat) : Int := if 0 < s then (ks.getD (s - 1) k0).1 else 1
def hiK (ks : List KV) (s : Nat) : Int := if s < ks.length then (if (ks.getD s k0).2 = ByteArray.empty then (ks.getD s k0).1 - 1 else (ks.getD s k0).1) else 12
theorem lo_bd {ks : List KV} (hm : ∀ k ∈ ks, mayK k) {s : Nat} (hs : s ≤ ks.length) : 1 ≤ loK ks s ∧ loK ks s ≤ 12 := by
  unfold loK
  split
  · have := hm _ (getD_memK ks (s - 1) (by omega)); unfold mayK at this; exact ⟨this.1, this.2.1⟩
  · omega
theorem hi_bd {ks : List KV} (hm : ∀ k ∈ ks, mayK k) {s : Nat} (hs : s ≤ ks.length) : 0 ≤ hiK ks s ∧ hiK ks s ≤ 12 := by
  unfold hiK
  split
  · have := hm _ (getD_memK ks s (by omega)); unfold mayK at this
    split <;> omega
  · omega
def leastK (ks : List KV) (s : Nat) (n : Int) : Int := if hiK ks s < loK ks s then -1 else max (max (loK ks s - n) (n - hiK ks s)) 0
end Go.Proofs.YtbbholdadgjelaaGreat
