/- fair: look (by gen/fa2.py) -/
import Derived.Test.YteloiibejkflhaaPkA
import Derived.Test.YteloiibejkflhaaQPl3
import Derived.Deep.RegionHeld3
import Derived.Laws.CopyOwn
namespace Go.Proofs.Yteloiibejkflhaa
open Go.RowKit
set_option linter.unusedVariables false
set_option maxRecDepth 20000
/-- a view's box, its good workers, its links -/
structure VBox (c : Cfg) (a : Option Addr) (n cap k : Nat) (G : List Int) (w0 w : World) (q : Nat) (ga : Option Addr) (gc mb : Nat) (H : List Int) : Prop where
  box : w.heap[q]? = some (.cells #[.int .i64 c.W, .slice a n cap, .slice ga k gc, .map (some mb)] 60 (0, 0))
  g : HoldsI .i64 w ga k G
  m : HM w mb H
  mB : w0.heap.size ≤ mb
  gB : ∀ b o z, ga = some ⟨b, o, z⟩ → w0.heap.size ≤ b
  b : Below w0.heap.size w0 w
theorem VBox.below {c : Cfg} {a : Option Addr} {n cap k : Nat} {G : List Int} {w0 w w' : World} {q : Nat} {ga : Option Addr} {gc mb : Nat} {H : List Int} (h : VBox c a n cap k G w0 w q ga gc mb H) (hb : Below w.heap.size w w') : VBox c a n cap k G w0 w' q ga gc mb H :=
  ⟨keepT h.box hb, h.g.below hb, by obtain ⟨cnt, h1, h2⟩ := h.m; exact ⟨cnt, h1, h2.below hb⟩, h.mB, h.gB, h.b.trans (hb.mono h.b.size)⟩
theorem holdsI_turn {w w' : World} {a : Option Addr} {n : Nat} {zs : List Int} {F : Nat → Prop} (h : HoldsI .i64 w a n zs) (t : Turn F w w') (hF : ∀ b o, a = some ⟨b, o, none⟩ → 0 < n → ¬ F b) : HoldsI .i64 w' a n zs := by
  refine ⟨h.1, fun h0 => ?_⟩
  obtain ⟨b, o, ha, hc⟩ := h.2 h0
  exact ⟨b, o, ha, fun i hi => (t.cell (lt_of_cell (hc i hi)) (hF b o ha h0)).trans (hc i hi)⟩
theorem holdsI_map {w w' : World} {a : Option Addr} {n mb : Nat} {zs H : List Int} (h : HoldsI .i64 w a n zs) (hm : HM w mb H) (t : Turn (fun k => k = mb) w w') : HoldsI .i64 w' a n zs :=
  holdsI_turn h t (fun b o ha h0 e => by
    obtain ⟨cnt, h1, h2⟩ := hm
    obtain ⟨b2, o2, ha2, hc⟩ := h.2 h0
    rw [ha] at ha2
    injection ha2 with e1; injection e1 with e1 e2
    subst e1 e2 e
    exact h2.no_cell _ _ (hc 0 h0))
theorem VBox.turn {c : Cfg} {a : Option Addr} {n cap k : Nat} {G : List Int} {w0 w w' : World} {q : Nat} {ga : Option Addr} {gc mb : Nat} {H H' : List Int} (h : VBox c a n cap k G w0 w q ga gc mb H) (t : Turn (fun k => k = mb) w w') (m : HM w' mb H') : VBox c a n cap k G w0 w' q ga gc mb H' :=
  ⟨(t.block q (Array.getElem?_eq_some_iff.1 h.box).1 (fun e => by
      obtain ⟨cnt, h1, h2⟩ := h.m
      exact h2.no_cell 0 (.int .i64 c.W) (by rw [← e]; exact cellT (i := 0) h.box rfl))).trans h.box, holdsI_map h.g h.m t, m, h.mB, h.gB, h.b.trans (t.below (fun i hi => by rw [hi]; exact h.mB) h.b.size)⟩
theorem ls_carry {w0 w w' : World} {p0 : Nat} {v : Value} (h : Below w0.heap.size w0 w ∧ w.cell? ⟨p0, 2, none⟩ = some v) (hb : Below w.heap.size w w') : Below w0.heap.size w0 w' ∧ w'.cell? ⟨p0, 2, none⟩ = some v :=
  ⟨h.1.trans (hb.mono h.1.size), (hb.cell (p := ⟨p0, 2, none⟩) (lt_of_cell h.2)).trans h.2⟩
theorem ls_drew {w0 w : World} {p0 : Nat} {v : Value} (h : Below w0.heap.size w0 w ∧ w.cell? ⟨p0, 2, none⟩ = some v) : Below w0.heap.size w0 w.drew ∧ w.drew.cell? ⟨p0, 2, none⟩ = some v := ⟨h.1.drew, h.2⟩
theorem ls_alloc {w0 w : World} {p0 : Nat} {v : Value} {o : Obj} (h : Below w0.heap.size w0 w ∧ w.cell? ⟨p0, 2, none⟩ = some v) : Below w0.heap.size w0 (w.alloc o) ∧ (w.alloc o).cell? ⟨p0, 2, none⟩ = some v := ls_carry h (below_one w o)
theorem ls_set {w0 w : World} {p0 b i : Nat} {v u : Value} (h : Below w0.heap.size w0 w ∧ w.cell? ⟨p0, 2, none⟩ = some v) (hb : p0 < b ∧ w0.heap.size ≤ b) : Below w0.heap.size w0 (w.setCell ⟨b, i, none⟩ u) ∧ (w.setCell ⟨b, i, none⟩ u).cell? ⟨p0, 2, none⟩ = some v :=
  ⟨h.1.setCell hb.2 u, (cset_far (by omega)).trans h.2⟩
theorem ls_row {w0 w : World} {p0 b : Nat} {v : Value} {cs : Array Value} (h : Below w0.heap.size w0 w ∧ w.cell? ⟨p0, 2, none⟩ = some v) (hb : p0 < b ∧ w0.heap.size ≤ b) : Below w0.heap.size w0 (w.setRow b cs) ∧ (w.setRow b cs).cell? ⟨p0, 2, none⟩ = some v :=
  ⟨below_setRow h.1 hb.2 cs, (cell_setRow_other w b cs ⟨p0, 2, none⟩ (show p0 ≠ b by omega)).trans h.2⟩
theorem owns_base {w : World} {b b' : Nat} {e : TypeId} {size : Nat} {v : Value} {n : Nat} {xs : List Value} (h : w.ownsRow b e size v n xs) (hb : b' ≤ b) : w.ownsRow b' e size v n xs :=
  ⟨h.1, h.2.imp id fun ⟨g, cap, cur, h1, h2, h3⟩ => ⟨g, cap, cur, h1, Nat.le_trans hb h2, h3⟩⟩
theorem owns_far {w : World} {b q : Nat} {e T : TypeId} {size : Nat} {v : Value} {n : Nat} {xs : List Value} {old cs : Array Value} (h : w.ownsRow b e size v n xs) (hq : w.heap[q]? = some (.cells old T (0, 0))) (ne : T ≠ e) : (w.setRow q cs).ownsRow b e size v n xs :=
  ⟨h.1, h.2.imp id fun ⟨g, cap, cur, h1, h2, h3, h4⟩ => ⟨g, cap, cur, h1, h2, (setRow_other w q g cs (fun e => by
    subst e
    rw [hq] at h3
    injection h3 with h3; injection h3 with _ h3 _
    exact ne h3)).trans h3, h4⟩⟩
theorem owns_at {w : World} {b0 : Nat} {e : TypeId} {size : Nat} {a : Option Addr} {m cap : Nat} {n : Nat} {xs : List Value} (h : w.ownsRow b0 e size (.slice a m cap) n xs) : ∀ b o z, a = some ⟨b, o, z⟩ → b0 ≤ b := fun b o z ha => by
  rcases h.2 with ⟨h1, _⟩ | ⟨g, c, cur, h1, h2, _⟩
  · subst ha; cases h1
  · subst ha; injection h1 with h1; injection h1 with h1; injection h1 with h1; omega
theorem hM_made (w : World) : HM (w.alloc (.map #[] 0)) w.heap.size [] := ⟨0, Nat.le_refl _, by
  have e : hfZ [] = fun _ => none := by funext x; simp [hfZ]
  rw [e]; exact mapV_made w⟩
theorem HM.block {w w' : World} {mb : Nat} {H : List Int} (h : HM w mb H) (e : w'.heap[mb]? = w.heap[mb]?) : HM w' mb H := by
  obtain ⟨cnt, h1, h2⟩ := h; exact ⟨cnt, h1, h2.block e⟩
theorem HM.below {w w' : World} {mb : Nat} {H : List Int} (h : HM w mb H) (hb : Below w.heap.size w w') : HM w' mb H := by
  obtain ⟨cnt, h1, h2⟩ := h; exact ⟨cnt, h1, h2.below hb⟩
theorem vbox_store {c : Cfg} {a : Option Addr} {n cap k : Nat} {G : List Int} {w0 X : World} {q : Nat} {ga : Option Addr} {gc mb : Nat} (hB : Below w0.heap.size w0 X) (hq : X.heap[q]? = some (.cells #[.int .i64 0, .slice none 0 0, .slice none 0 0, .map none] 60 (0, 0)) ∧ w0.heap.size ≤ q) (hg : X.ownsRow w0.heap.size 3 1 (.slice ga k gc) k (nzV G)) (hm : HM X mb [] ∧ w0.heap.size ≤ mb) : VBox c a n cap k G w0 (X.setRow q #[.int .i64 c.W, .slice a n cap, .slice ga k gc, .map (some mb)]) q ga gc mb [] :=
  ⟨setRow_heap X q _ _ _ _ hq.1, RetN.holds (owns_far hg hq.1 (by decide)), hm.1.block (setRow_other X q mb _ (fun e => by
    obtain ⟨cnt, h1, h2⟩ := hm.1
    subst e
    exact h2.no_cell 0 (.int .i64 0) (cellT (i := 0) hq.1 rfl))), hm.2, owns_at hg, below_setRow hB hq.2 _⟩
def linksL (G : List Int) (xs : List RecP) : List Int := G.flatMap fun g => betL 0 g xs
theorem linksL_next (G : List Int) (xs : List RecP) (j : Nat) (h : j < G.length) : linksL (G.take (j + 1)) xs = linksL (G.take j) xs ++ betL 0 (G.getD j 0) xs := by
  rw [take_succ_getD G 0 j h]
  unfold linksL
  rw [List.flatMap_append]
  simp
theorem linksL_len (xs : List RecP) (hx : ∀ x ∈ xs, x.ss.length ≤ 1000) (hn : xs.length ≤ 1000) : ∀ G : List Int, (linksL G xs).length ≤ 1000000 * G.length
  | [] => Nat.le_refl _
  | g :: G => by
    have h1 := linksL_len xs hx hn G
    have h2 := betL_len 0 g xs hx
    have h3 : 1000 * xs.length ≤ 1000 * 1000 := Nat.mul_le_mul_left _ hn
    rw [show linksL (g :: G) xs = betL 0 g xs ++ linksL G xs from rfl, List.length_append, List.length_cons]
    omega
theorem betL_wf (p q : Int) (xs : List RecP) {w : World} (hx : ∀ x ∈ xs, RecOk w x) : ∀ z ∈ betL p q xs, wfZ z := fun z hz => by
  obtain ⟨x, hxm, hz⟩ := List.mem_flatMap.1 hz
  obtain ⟨s, hs, rfl⟩ := List.mem_map.1 hz
  exact (hx x hxm).ws s (List.mem_filter.1 hs).1
def LookP (c : Cfg) (a : Option Addr) (n cap : Nat) (xs : List RecP) (k : Nat) (G : List Int) (w : World) (e : Ending) (w' : World) : Prop :=
  ∃ ga gc mb, e = .returned (.agg #[.int .i64 c.W, .slice a n cap, .slice ga k gc, .map (some mb)]) ∧ HoldsI .i64 w' ga k G ∧ HM w' mb (linksL G xs) ∧ Below w.heap.size w w'
set_option maxHeartbeats 6400000 in
set_option maxRecDepth 100000 in
theorem look_any (c : Cfg) (a : Option Addr) (n cap : Nat) (xs : List RecP) (ga0 : Option Addr) (gn gcap : Nat) (zs G : List Int) (k : Nat) (w : World) (h : HoldsRc w a n xs) (hn : n ≤ 1000) (hx : ∀ x ∈ xs, x.sn ≤ 1000) (hg : HoldsI .i64 w ga0 gn zs) (h0 : 0 < gn) (hgn : gn ≤ 1000) (hG : canonZ zs = G) (hk : G.length = k) :
    Calls Try.prog 23 #[.agg #[.slice c.wa c.wn c.wc, .slice c.ka c.kn c.kc, .int .i64 c.W, .int .i64 c.C, .int .i64 c.S, .int .i64 c.B, .int .i64 c.L, .int .i64 c.H, .int .i64 c.F, .int .i64 c.P, .int .i64 c.J, .int .i64 c.N], .slice a n cap, .slice ga0 gn gcap] w (LookP c a n cap xs k G w) := by
  have H := Lib.hid h
  have HX := Lib.hid hx
  have hkn : k ≤ 1000 := by
    have := canonZ_len zs
    rw [hG, hk, hg.len] at this
    omega
  have HK := Lib.hid hk
  have WFB := Lib.hid (fun q => betL_wf 0 q xs h.ok)
  have BL := Lib.hid (show ∀ q, (betL 0 q xs).length ≤ 1000000 from fun q => by
    have := betL_len 0 q xs (fun x hm => by rw [(h.ok x hm).s.1]; exact hx x hm)
    rw [h.len] at this; omega)
  have LL := Lib.hid (show ∀ j, (linksL (G.take j) xs).length ≤ 1000000000 from fun j => by
    have := linksL_len xs (fun x hm => by rw [(h.ok x hm).s.1]; exact hx x hm) (by rw [h.len]; exact hn) (G.take j)
    rw [List.length_take] at this
    omega)
  have CD0 := distinct_any ga0 gn gcap zs
  rw [hG] at CD0
  unfold RetN at CD0
  rw [hk] at CD0
  have HG := Lib.hid hg
  have CD := Lib.hid (fun (w' : World) (hb : Below w.heap.size w w') => CD0 w' (HG.out.below hb) h0 (by omega))
  clear CD0 h hx hg hG hk
  have BX := Lib.hid (below_one w (.cells #[.slice c.wa c.wn c.wc, .slice c.ka c.kn c.kc, .int .i64 c.W, .int .i64 c.C, .int .i64 c.S, .int .i64 c.B, .int .i64 c.L, .int .i64 c.H, .int .i64 c.F, .int .i64 c.P, .int .i64 c.J, .int .i64 c.N] 25))
  have C2 := Lib.hid (show (w.alloc (.cells #[.slice c.wa c.wn c.wc, .slice c.ka c.kn c.kc, .int .i64 c.W, .int .i64 c.C, .int .i64 c.S, .int .i64 c.B, .int .i64 c.L, .int .i64 c.H, .int .i64 c.F, .int .i64 c.P, .int .i64 c.J, .int .i64 c.N] 25)).cell? ⟨w.heap.size, 2, none⟩ = some (.int .i64 c.W) from by rw [World.cell?_alloc_mark]; rfl)
  obtain ⟨w1, hw1⟩ : ∃ w1, w.alloc (.cells #[.slice c.wa c.wn c.wc, .slice c.ka c.kn c.kc, .int .i64 c.W, .int .i64 c.C, .int .i64 c.S, .int .i64 c.B, .int .i64 c.L, .int .i64 c.H, .int .i64 c.F, .int .i64 c.P, .int .i64 c.J, .int .i64 c.N] 25) = w1 := ⟨_, rfl⟩
  rw [hw1] at BX C2
  have HP := Lib.hid (heap_alloc_new w1 (.cells #[.int .i64 0, .slice none 0 0, .slice none 0 0, .map none] 60))
  obtain ⟨w2, hw2⟩ : ∃ w2, w1.alloc (.cells #[.int .i64 0, .slice none 0 0, .slice none 0 0, .map none] 60) = w2 := ⟨_, rfl⟩
  rw [hw2] at HP
  have b12 : Below w1.heap.size w1 w2 := hw2 ▸ below_one w1 _
  have B2 := Lib.hid (BX.out.trans (b12.mono BX.out.size))
  have C22 := Lib.hid ((b12.cell (p := ⟨w.heap.size, 2, none⟩) (lt_of_cell C2.out)).trans C2.out)
  obtain ⟨p0, hp0⟩ : ∃ p, w.heap.size = p := ⟨_, rfl⟩
  have HP0 := Lib.hid hp0
  obtain ⟨p, hp⟩ : ∃ p, w1.heap.size = p := ⟨_, rfl⟩
  rw [hp] at HP
  rw [hp0] at C22
  have PP := Lib.hid (show p0 < p from by rw [← hp0, ← hp]; exact lt_of_cell C2.out)
  have hmm := @run_makeMap Try.prog
  clear b12 C2
  go_enter Try.func23, Try.ntmps23
  go_upto_region 1 with fail
  try rw [hw1]
  try rw [hw2]
  try simp only [hp0, hp]
  clear hw1 hw2 hp0 hp
  go_cut [7] from 12 to 18 (fun u wc => ∃ (q : Nat) (ga : Option Addr) (gc mb : Nat), u = .pointer (some ⟨q, 0, none⟩) ∧ Hid (VBox c a n cap k G w2 wc q ga gc mb []))
  case first =>
    have hS0 := ls_drew (show Below w.heap.size w w2 ∧ w2.cell? ⟨p0, 2, none⟩ = some (.int .i64 c.W) from ⟨B2.out, C22.out⟩)
    have B0 : Below w2.heap.size w2 w2.drew := (Below.refl _ _).drew
    have pw : p0 < w2.heap.size := lt_of_cell C22.out
    refine wp_region_held_drew (S := (fun w' => Below w.heap.size w w' ∧ w'.cell? ⟨p0, 2, none⟩ = some (.int .i64 c.W))) (by kernel_rfl) hS0 (fun hHeld0 => ?_)
    clear hS0
    generalize w2.drew = X0 at hHeld0 B0 ⊢
    refine wpAnyH_take (i := 0) (oi := { dst := some 12, op := Op.fieldAddr 25 (Operand.tmp 3) 2, type := 0, pos := "fair.go:75", after := #[], guard := none }) (v := ?vz1) rfl (by kernel_rfl) (by kernel_rfl) (by kernel_rfl) (fun _ _ _ h => h) (Or.inl ⟨by rfl, ?hyz1⟩) (by assumption) ?restz1
    case hyz1 => (intro w hSw; (try dsimp only at hSw); go_simp; (try with_reducible rfl))
    try simp only [Act.put, List.setIfInBounds_toArray, List.set_cons_zero, List.set_cons_succ]
    refine wpAnyH_take (i := 1) (oi := { dst := some 13, op := Op.load 3 (Operand.tmp 12), type := 3, pos := "fair.go:75", after := #[{ on := 0, ground := Ground.data }], guard := none }) (v := ?vz2) rfl (by kernel_rfl) (by kernel_rfl) (by kernel_rfl) (fun _ _ _ h => h) (Or.inl ⟨by rfl, ?hyz2⟩) (by assumption) ?restz2
    case hyz2 => (intro w hSw; (try dsimp only at hSw); go_simp; (try with_reducible rfl))
    try simp only [Act.put, List.setIfInBounds_toArray, List.set_cons_zero, List.set_cons_succ]
    refine wpAnyH_take (i := 2) (oi := { dst := some 14, op := Op.move (Operand.tmp 1), type := 32, pos := "fair.go:75", after := #[], guard := none }) (v := ?vz3) rfl (by kernel_rfl) (by kernel_rfl) (by kernel_rfl) (fun _ _ _ h => h) (Or.inl ⟨by rfl, ?hyz3⟩) (by assumption) ?restz3
    case hyz3 => (intro w hSw; (try dsimp only at hSw); go_simp; (try with_reducible rfl))
    try simp only [Act.put, List.setIfInBounds_toArray, List.set_cons_zero, List.set_cons_succ]
    refine wpAnyH_take (i := 3) (oi := { dst := some 15, op := Op.move (Operand.tmp 2), type := 33, pos := "fair.go:75", after := #[], guard := none }) (v := ?vz4) rfl (by kernel_rfl) (by kernel_rfl) (by kernel_rfl) (fun _ _ _ h => h) (Or.inl ⟨by rfl, ?hyz4⟩) (by assumption) ?restz4
    case hyz4 => (intro w hSw; (try dsimp only at hSw); go_simp; (try with_reducible rfl))
    try simp only [Act.put, List.setIfInBounds_toArray, List.set_cons_zero, List.set_cons_succ]
    refine wpAnyH_ready (rs := [4, 5, 7]) (by kernel_rfl) (by simp) ?_
    refine AllReadyH.cons (o := { dst := some 16, op := Op.call { callee := Callee.value (Operand.func 33), args := #[Operand.tmp 15], argTypes := #[33] }, type := 33, pos := "fair.go:75", after := #[{ on := 3, ground := Ground.data }], guard := none }) rfl (fun K hK => ?_) (AllReadyH.cons (o := { dst := some 17, op := Op.makeMap 58 none, type := 58, pos := "fair.go:75", after := #[], guard := none }) rfl (fun K hK => ?_) (AllReadyH.cons (o := { dst := some 7, op := Op.alloc 60, type := 0, pos := "fair.go:75", after := #[], guard := none }) rfl (fun K hK => ?_) AllReadyH.nil))
    · go_simp
      go_at_call 33
      with_reducible refine (CD.out _ hHeld0.1).mono ?_
      rintro e X1 ⟨ga, gc, rfl, ho, hb⟩
      go_wp2_with fail
      refine hK.out _ _ (ls_carry hHeld0 hb) (fun hHeld1 => ?_)
      have FG := owns_base ho B0.size
      clear ho
      have B1 := B0.trans (hb.mono B0.size)
      clear hb hK K hHeld0 B0
      try simp only [Act.put, List.setIfInBounds_toArray, List.set_cons_zero, List.set_cons_succ]
      refine wpAnyH_ready (rs := [5, 7]) (by kernel_rfl) (by simp) ?_
      refine AllReadyH.cons (o := { dst := some 17, op := Op.makeMap 58 none, type := 58, pos := "fair.go:75", after := #[], guard := none }) rfl (fun K hK => ?_) (AllReadyH.cons (o := { dst := some 7, op := Op.alloc 60, type := 0, pos := "fair.go:75", after := #[], guard := none }) rfl (fun K hK => ?_) AllReadyH.nil)
      · go_simp
        have hb := below_one X1 (.map #[] 0)
        have hm := hM_made X1
        have hs := ls_alloc (o := .map #[] 0) hHeld1
        have hle := B1.size
        obtain ⟨mb, hmb⟩ : ∃ mb, X1.heap.size = mb := ⟨_, rfl⟩
        rw [hmb] at hm hle ⊢
        generalize X1.alloc (.map #[] 0) = X2 at hb hm hs ⊢
        have FM : HM X2 mb [] ∧ w2.heap.size ≤ mb := ⟨hm, hle⟩
        refine hK.out _ _ hs (fun hHeld2 => ?_)
        clear hm hs hle hmb
        replace FG := owns_below FG hb
        have B2 := B1.trans (hb.mono B1.size)
        clear hb hK K hHeld1 B1
        try simp only [Act.put, List.setIfInBounds_toArray, List.set_cons_zero, List.set_cons_succ]
        refine wpAnyH_take (i := 6) (oi := { dst := some 18, op := Op.build 60 #[(0, Operand.tmp 13), (1, Operand.tmp 14), (2, Operand.tmp 16), (3, Operand.tmp 17)], type := 60, pos := "fair.go:75", after := #[{ on := 1, ground := Ground.data }, { on := 2, ground := Ground.data }, { on := 4, ground := Ground.data }, { on := 5, ground := Ground.data }], guard := none }) (v := ?vz5) rfl (by kernel_rfl) (by kernel_rfl) (by kernel_rfl) (fun _ _ _ h => h) (Or.inl ⟨by rfl, ?hyz5⟩) (by assumption) ?restz5
        case hyz5 => (intro w hSw; (try dsimp only at hSw); go_simp; (try with_reducible rfl))
        try simp only [Act.put, List.setIfInBounds_toArray, List.set_cons_zero, List.set_cons_succ]
        refine wpAnyH_ready (rs := [7]) (by kernel_rfl) (by simp) ?_
        refine AllReadyH.cons (o := { dst := some 7, op := Op.alloc 60, type := 0, pos := "fair.go:75", after := #[], guard := none }) rfl (fun K hK => ?_) AllReadyH.nil
        · go_simp
          have hb := below_one X2 (.cells #[.int .i64 0, .slice none 0 0, .slice none 0 0, .map none] 60)
          have hm := heap_alloc_new X2 (.cells #[.int .i64 0, .slice none 0 0, .slice none 0 0, .map none] 60)
          have hs := ls_alloc (o := .cells #[.int .i64 0, .slice none 0 0, .slice none 0 0, .map none] 60) hHeld2
          have hle := B2.size
          obtain ⟨q, hq⟩ : ∃ q, X2.heap.size = q := ⟨_, rfl⟩
          rw [hq] at hm hle ⊢
          generalize X2.alloc (.cells #[.int .i64 0, .slice none 0 0, .slice none 0 0, .map none] 60) = X3 at hb hm hs ⊢
          have FB : X3.heap[q]? = some (.cells #[.int .i64 0, .slice none 0 0, .slice none 0 0, .map none] 60 (0, 0)) ∧ w2.heap.size ≤ q := ⟨hm, hle⟩
          refine hK.out _ _ hs (fun hHeld3 => ?_)
          clear hm hs hle hq
          replace FG := owns_below FG hb
          replace FM := And.intro (FM.1.below hb) FM.2
          have B3 := B2.trans (hb.mono B2.size)
          clear hb hK K hHeld2 B2
          try simp only [Act.put, List.setIfInBounds_toArray, List.set_cons_zero, List.set_cons_succ]
          refine wpAnyH_ready (rs := [8]) (by kernel_rfl) (by simp) ?_
          refine AllReadyH.cons (o := { dst := none, op := Op.store 60 (Operand.tmp 7) (Operand.tmp 18), type := 0, pos := "fair.go:75", after := #[{ on := 7, ground := Ground.data }, { on := 6, ground := Ground.data }, { on := 4, ground := Ground.chain }, { on := 0, ground := Ground.phase }, { on := 1, ground := Ground.phase }, { on := 2, ground := Ground.phase }, { on := 3, ground := Ground.phase }, { on := 4, ground := Ground.phase }, { on := 5, ground := Ground.phase }, { on := 6, ground := Ground.phase }, { on := 7, ground := Ground.phase }], guard := none }) rfl (fun K hK => ?_) AllReadyH.nil
          rw [if_pos (by rfl)]
          refine wp_store_row 60 _ _ rfl q #[.int .i64 c.W, .slice a n cap, .slice ga k gc, .map (some mb)] (by rfl) (by rfl) 60 #[.int .i64 0, .slice none 0 0, .slice none 0 0, .map none] FB.1 (by kernel_rfl) rfl (by kernel_rfl) ?_
          refine hK.out _ _ (ls_row hHeld3 ⟨Nat.lt_of_lt_of_le pw FB.2, Nat.le_trans B2.out.size FB.2⟩) (fun hHeldE => ?_)
          try simp only [Act.put]
          refine wpAnyH_done (by kernel_rfl) ?_ _
          go_wp2_with fail
          go_meet
          exact ⟨q, ga, gc, mb, rfl, Lib.hid (vbox_store B3 FB FG FM)⟩
      · go_simp
        have hb := below_one X1 (.cells #[.int .i64 0, .slice none 0 0, .slice none 0 0, .map none] 60)
        have hm := heap_alloc_new X1 (.cells #[.int .i64 0, .slice none 0 0, .slice none 0 0, .map none] 60)
        have hs := ls_alloc (o := .cells #[.int .i64 0, .slice none 0 0, .slice none 0 0, .map none] 60) hHeld1
        have hle := B1.size
        obtain ⟨q, hq⟩ : ∃ q, X1.heap.size = q := ⟨_, rfl⟩
        rw [hq] at hm hle ⊢
        generalize X1.alloc (.cells #[.int .i64 0, .slice none 0 0, .slice none 0 0, .map none] 60) = X2 at hb hm hs ⊢
        have FB : X2.heap[q]? = some (.cells #[.int .i64 0, .slice none 0 0, .slice none 0 0, .map none] 60 (0, 0)) ∧ w2.heap.size ≤ q := ⟨hm, hle⟩
        refine hK.out _ _ hs (fun hHeld2 => ?_)
        clear hm hs hle hq
        replace FG := owns_below FG hb
        have B2 := B1.trans (hb.mono B1.size)
        clear hb hK K hHeld1 B1
        try simp only [Act.put, List.setIfInBounds_toArray, List.set_cons_zero, List.set_cons_succ]
        refine wpAnyH_ready (rs := [5]) (by kernel_rfl) (by simp) ?_
        refine AllReadyH.cons (o := { dst := some 17, op := Op.makeMap 58 none, type := 58, pos := "fair.go:75", after := #[], guard := none }) rfl (fun K hK => ?_) AllReadyH.nil
        · go_simp
          have hb := below_one X2 (.map #[] 0)
          have hm := hM_made X2
          have hs := ls_alloc (o := .map #[] 0) hHeld2
          have hle := B2.size
          obtain ⟨mb, hmb⟩ : ∃ mb, X2.heap.size = mb := ⟨_, rfl⟩
          rw [hmb] at hm hle ⊢
          generalize X2.alloc (.map #[] 0) = X3 at hb hm hs ⊢
          have FM : HM X3 mb [] ∧ w2.heap.size ≤ mb := ⟨hm, hle⟩
          refine hK.out _ _ hs (fun hHeld3 => ?_)
          clear hm hs hle hmb
          replace FG := owns_below FG hb
          replace FB := And.intro (keepT FB.1 hb) FB.2
          have B3 := B2.trans (hb.mono B2.size)
          clear hb hK K hHeld2 B2
          try simp only [Act.put, List.setIfInBounds_toArray, List.set_cons_zero, List.set_cons_succ]
          refine wpAnyH_take (i := 6) (oi := { dst := some 18, op := Op.build 60 #[(0, Operand.tmp 13), (1, Operand.tmp 14), (2, Operand.tmp 16), (3, Operand.tmp 17)], type := 60, pos := "fair.go:75", after := #[{ on := 1, ground := Ground.data }, { on := 2, ground := Ground.data }, { on := 4, ground := Ground.data }, { on := 5, ground := Ground.data }], guard := none }) (v := ?vz6) rfl (by kernel_rfl) (by kernel_rfl) (by kernel_rfl) (fun _ _ _ h => h) (Or.inl ⟨by rfl, ?hyz6⟩) (by assumption) ?restz6
          case hyz6 => (intro w hSw; (try dsimp only at hSw); go_simp; (try with_reducible rfl))
          try simp only [Act.put, List.setIfInBounds_toArray, List.set_cons_zero, List.set_cons_succ]
          refine wpAnyH_ready (rs := [8]) (by kernel_rfl) (by simp) ?_
          refine AllReadyH.cons (o := { dst := none, op := Op.store 60 (Operand.tmp 7) (Operand.tmp 18), type := 0, pos := "fair.go:75", after := #[{ on := 7, ground := Ground.data }, { on := 6, ground := Ground.data }, { on := 4, ground := Ground.chain }, { on := 0, ground := Ground.phase }, { on := 1, ground := Ground.phase }, { on := 2, ground := Ground.phase }, { on := 3, ground := Ground.phase }, { on := 4, ground := Ground.phase }, { on := 5, ground := Ground.phase }, { on := 6, ground := Ground.phase }, { on := 7, ground := Ground.phase }], guard := none }) rfl (fun K hK => ?_) AllReadyH.nil
          rw [if_pos (by rfl)]
          refine wp_store_row 60 _ _ rfl q #[.int .i64 c.W, .slice a n cap, .slice ga k gc, .map (some mb)] (by rfl) (by rfl) 60 #[.int .i64 0, .slice none 0 0, .slice none 0 0, .map none] FB.1 (by kernel_rfl) rfl (by kernel_rfl) ?_
          refine hK.out _ _ (ls_row hHeld3 ⟨Nat.lt_of_lt_of_le pw FB.2, Nat.le_trans B2.out.size FB.2⟩) (fun hHeldE => ?_)
          try simp only [Act.put]
          refine wpAnyH_done (by kernel_rfl) ?_ _
          go_wp2_with fail
          go_meet
          exact ⟨q, ga, gc, mb, rfl, Lib.hid (vbox_store B3 FB FG FM)⟩
    · go_simp
      have hb := below_one X0 (.map #[] 0)
      have hm := hM_made X0
      have hs := ls_alloc (o := .map #[] 0) hHeld0
      have hle := B0.size
      obtain ⟨mb, hmb⟩ : ∃ mb, X0.heap.size = mb := ⟨_, rfl⟩
      rw [hmb] at hm hle ⊢
      generalize X0.alloc (.map #[] 0) = X1 at hb hm hs ⊢
      have FM : HM X1 mb [] ∧ w2.heap.size ≤ mb := ⟨hm, hle⟩
      refine hK.out _ _ hs (fun hHeld1 => ?_)
      clear hm hs hle hmb
      have B1 := B0.trans (hb.mono B0.size)
      clear hb hK K hHeld0 B0
      try simp only [Act.put, List.setIfInBounds_toArray, List.set_cons_zero, List.set_cons_succ]
      refine wpAnyH_ready (rs := [4, 7]) (by kernel_rfl) (by simp) ?_
      refine AllReadyH.cons (o := { dst := some 16, op := Op.call { callee := Callee.value (Operand.func 33), args := #[Operand.tmp 15], argTypes := #[33] }, type := 33, pos := "fair.go:75", after := #[{ on := 3, ground := Ground.data }], guard := none }) rfl (fun K hK => ?_) (AllReadyH.cons (o := { dst := some 7, op := Op.alloc 60, type := 0, pos := "fair.go:75", after := #[], guard := none }) rfl (fun K hK => ?_) AllReadyH.nil)
      · go_simp
        go_at_call 33
        with_reducible refine (CD.out _ hHeld1.1).mono ?_
        rintro e X2 ⟨ga, gc, rfl, ho, hb⟩
        go_wp2_with fail
        refine hK.out _ _ (ls_carry hHeld1 hb) (fun hHeld2 => ?_)
        have FG := owns_base ho B1.size
        clear ho
        replace FM := And.intro (FM.1.below hb) FM.2
        have B2 := B1.trans (hb.mono B1.size)
        clear hb hK K hHeld1 B1
        try simp only [Act.put, List.setIfInBounds_toArray, List.set_cons_zero, List.set_cons_succ]
        refine wpAnyH_take (i := 6) (oi := { dst := some 18, op := Op.build 60 #[(0, Operand.tmp 13), (1, Operand.tmp 14), (2, Operand.tmp 16), (3, Operand.tmp 17)], type := 60, pos := "fair.go:75", after := #[{ on := 1, ground := Ground.data }, { on := 2, ground := Ground.data }, { on := 4, ground := Ground.data }, { on := 5, ground := Ground.data }], guard := none }) (v := ?vz7) rfl (by kernel_rfl) (by kernel_rfl) (by kernel_rfl) (fun _ _ _ h => h) (Or.inl ⟨by rfl, ?hyz7⟩) (by assumption) ?restz7
        case hyz7 => (intro w hSw; (try dsimp only at hSw); go_simp; (try with_reducible rfl))
        try simp only [Act.put, List.setIfInBounds_toArray, List.set_cons_zero, List.set_cons_succ]
        refine wpAnyH_ready (rs := [7]) (by kernel_rfl) (by simp) ?_
        refine AllReadyH.cons (o := { dst := some 7, op := Op.alloc 60, type := 0, pos := "fair.go:75", after := #[], guard := none }) rfl (fun K hK => ?_) AllReadyH.nil
        · go_simp
          have hb := below_one X2 (.cells #[.int .i64 0, .slice none 0 0, .slice none 0 0, .map none] 60)
          have hm := heap_alloc_new X2 (.cells #[.int .i64 0, .slice none 0 0, .slice none 0 0, .map none] 60)
          have hs := ls_alloc (o := .cells #[.int .i64 0, .slice none 0 0, .slice none 0 0, .map none] 60) hHeld2
          have hle := B2.size
          obtain ⟨q, hq⟩ : ∃ q, X2.heap.size = q := ⟨_, rfl⟩
          rw [hq] at hm hle ⊢
          generalize X2.alloc (.cells #[.int .i64 0, .slice none 0 0, .slice none 0 0, .map none] 60) = X3 at hb hm hs ⊢
          have FB : X3.heap[q]? = some (.cells #[.int .i64 0, .slice none 0 0, .slice none 0 0, .map none] 60 (0, 0)) ∧ w2.heap.size ≤ q := ⟨hm, hle⟩
          refine hK.out _ _ hs (fun hHeld3 => ?_)
          clear hm hs hle hq
          replace FM := And.intro (FM.1.below hb) FM.2
          replace FG := owns_below FG hb
          have B3 := B2.trans (hb.mono B2.size)
          clear hb hK K hHeld2 B2
          try simp only [Act.put, List.setIfInBounds_toArray, List.set_cons_zero, List.set_cons_succ]
          refine wpAnyH_ready (rs := [8]) (by kernel_rfl) (by simp) ?_
          refine AllReadyH.cons (o := { dst := none, op := Op.store 60 (Operand.tmp 7) (Operand.tmp 18), type := 0, pos := "fair.go:75", after := #[{ on := 7, ground := Ground.data }, { on := 6, ground := Ground.data }, { on := 4, ground := Ground.chain }, { on := 0, ground := Ground.phase }, { on := 1, ground := Ground.phase }, { on := 2, ground := Ground.phase }, { on := 3, ground := Ground.phase }, { on := 4, ground := Ground.phase }, { on := 5, ground := Ground.phase }, { on := 6, ground := Ground.phase }, { on := 7, ground := Ground.phase }], guard := none }) rfl (fun K hK => ?_) AllReadyH.nil
          rw [if_pos (by rfl)]
          refine wp_store_row 60 _ _ rfl q #[.int .i64 c.W, .slice a n cap, .slice ga k gc, .map (some mb)] (by rfl) (by rfl) 60 #[.int .i64 0, .slice none 0 0, .slice none 0 0, .map none] FB.1 (by kernel_rfl) rfl (by kernel_rfl) ?_
          refine hK.out _ _ (ls_row hHeld3 ⟨Nat.lt_of_lt_of_le pw FB.2, Nat.le_trans B2.out.size FB.2⟩) (fun hHeldE => ?_)
          try simp only [Act.put]
          refine wpAnyH_done (by kernel_rfl) ?_ _
          go_wp2_with fail
          go_meet
          exact ⟨q, ga, gc, mb, rfl, Lib.hid (vbox_store B3 FB FG FM)⟩
      · go_simp
        have hb := below_one X1 (.cells #[.int .i64 0, .slice none 0 0, .slice none 0 0, .map none] 60)
        have hm := heap_alloc_new X1 (.cells #[.int .i64 0, .slice none 0 0, .slice none 0 0, .map none] 60)
        have hs := ls_alloc (o := .cells #[.int .i64 0, .slice none 0 0, .slice none 0 0, .map none] 60) hHeld1
        have hle := B1.size
        obtain ⟨q, hq⟩ : ∃ q, X1.heap.size = q := ⟨_, rfl⟩
        rw [hq] at hm hle ⊢
        generalize X1.alloc (.cells #[.int .i64 0, .slice none 0 0, .slice none 0 0, .map none] 60) = X2 at hb hm hs ⊢
        have FB : X2.heap[q]? = some (.cells #[.int .i64 0, .slice none 0 0, .slice none 0 0, .map none] 60 (0, 0)) ∧ w2.heap.size ≤ q := ⟨hm, hle⟩
        refine hK.out _ _ hs (fun hHeld2 => ?_)
        clear hm hs hle hq
        replace FM := And.intro (FM.1.below hb) FM.2
        have B2 := B1.trans (hb.mono B1.size)
        clear hb hK K hHeld1 B1
        try simp only [Act.put, List.setIfInBounds_toArray, List.set_cons_zero, List.set_cons_succ]
        refine wpAnyH_ready (rs := [4]) (by kernel_rfl) (by simp) ?_
        refine AllReadyH.cons (o := { dst := some 16, op := Op.call { callee := Callee.value (Operand.func 33), args := #[Operand.tmp 15], argTypes := #[33] }, type := 33, pos := "fair.go:75", after := #[{ on := 3, ground := Ground.data }], guard := none }) rfl (fun K hK => ?_) AllReadyH.nil
        · go_simp
          go_at_call 33
          with_reducible refine (CD.out _ hHeld2.1).mono ?_
          rintro e X3 ⟨ga, gc, rfl, ho, hb⟩
          go_wp2_with fail
          refine hK.out _ _ (ls_carry hHeld2 hb) (fun hHeld3 => ?_)
          have FG := owns_base ho B2.size
          clear ho
          replace FM := And.intro (FM.1.below hb) FM.2
          replace FB := And.intro (keepT FB.1 hb) FB.2
          have B3 := B2.trans (hb.mono B2.size)
          clear hb hK K hHeld2 B2
          try simp only [Act.put, List.setIfInBounds_toArray, List.set_cons_zero, List.set_cons_succ]
          refine wpAnyH_take (i := 6) (oi := { dst := some 18, op := Op.build 60 #[(0, Operand.tmp 13), (1, Operand.tmp 14), (2, Operand.tmp 16), (3, Operand.tmp 17)], type := 60, pos := "fair.go:75", after := #[{ on := 1, ground := Ground.data }, { on := 2, ground := Ground.data }, { on := 4, ground := Ground.data }, { on := 5, ground := Ground.data }], guard := none }) (v := ?vz8) rfl (by kernel_rfl) (by kernel_rfl) (by kernel_rfl) (fun _ _ _ h => h) (Or.inl ⟨by rfl, ?hyz8⟩) (by assumption) ?restz8
          case hyz8 => (intro w hSw; (try dsimp only at hSw); go_simp; (try with_reducible rfl))
          try simp only [Act.put, List.setIfInBounds_toArray, List.set_cons_zero, List.set_cons_succ]
          refine wpAnyH_ready (rs := [8]) (by kernel_rfl) (by simp) ?_
          refine AllReadyH.cons (o := { dst := none, op := Op.store 60 (Operand.tmp 7) (Operand.tmp 18), type := 0, pos := "fair.go:75", after := #[{ on := 7, ground := Ground.data }, { on := 6, ground := Ground.data }, { on := 4, ground := Ground.chain }, { on := 0, ground := Ground.phase }, { on := 1, ground := Ground.phase }, { on := 2, ground := Ground.phase }, { on := 3, ground := Ground.phase }, { on := 4, ground := Ground.phase }, { on := 5, ground := Ground.phase }, { on := 6, ground := Ground.phase }, { on := 7, ground := Ground.phase }], guard := none }) rfl (fun K hK => ?_) AllReadyH.nil
          rw [if_pos (by rfl)]
          refine wp_store_row 60 _ _ rfl q #[.int .i64 c.W, .slice a n cap, .slice ga k gc, .map (some mb)] (by rfl) (by rfl) 60 #[.int .i64 0, .slice none 0 0, .slice none 0 0, .map none] FB.1 (by kernel_rfl) rfl (by kernel_rfl) ?_
          refine hK.out _ _ (ls_row hHeld3 ⟨Nat.lt_of_lt_of_le pw FB.2, Nat.le_trans B2.out.size FB.2⟩) (fun hHeldE => ?_)
          try simp only [Act.put]
          refine wpAnyH_done (by kernel_rfl) ?_ _
          go_wp2_with fail
          go_meet
          exact ⟨q, ga, gc, mb, rfl, Lib.hid (vbox_store B3 FB FG FM)⟩
    · go_simp
      have hb := below_one X0 (.cells #[.int .i64 0, .slice none 0 0, .slice none 0 0, .map none] 60)
      have hm := heap_alloc_new X0 (.cells #[.int .i64 0, .slice none 0 0, .slice none 0 0, .map none] 60)
      have hs := ls_alloc (o := .cells #[.int .i64 0, .slice none 0 0, .slice none 0 0, .map none] 60) hHeld0
      have hle := B0.size
      obtain ⟨q, hq⟩ : ∃ q, X0.heap.size = q := ⟨_, rfl⟩
      rw [hq] at hm hle ⊢
      generalize X0.alloc (.cells #[.int .i64 0, .slice none 0 0, .slice none 0 0, .map none] 60) = X1 at hb hm hs ⊢
      have FB : X1.heap[q]? = some (.cells #[.int .i64 0, .slice none 0 0, .slice none 0 0, .map none] 60 (0, 0)) ∧ w2.heap.size ≤ q := ⟨hm, hle⟩
      refine hK.out _ _ hs (fun hHeld1 => ?_)
      clear hm hs hle hq
      have B1 := B0.trans (hb.mono B0.size)
      clear hb hK K hHeld0 B0
      try simp only [Act.put, List.setIfInBounds_toArray, List.set_cons_zero, List.set_cons_succ]
      refine wpAnyH_ready (rs := [4, 5]) (by kernel_rfl) (by simp) ?_
      refine AllReadyH.cons (o := { dst := some 16, op := Op.call { callee := Callee.value (Operand.func 33), args := #[Operand.tmp 15], argTypes := #[33] }, type := 33, pos := "fair.go:75", after := #[{ on := 3, ground := Ground.data }], guard := none }) rfl (fun K hK => ?_) (AllReadyH.cons (o := { dst := some 17, op := Op.makeMap 58 none, type := 58, pos := "fair.go:75", after := #[], guard := none }) rfl (fun K hK => ?_) AllReadyH.nil)
      · go_simp
        go_at_call 33
        with_reducible refine (CD.out _ hHeld1.1).mono ?_
        rintro e X2 ⟨ga, gc, rfl, ho, hb⟩
        go_wp2_with fail
        refine hK.out _ _ (ls_carry hHeld1 hb) (fun hHeld2 => ?_)
        have FG := owns_base ho B1.size
        clear ho
        replace FB := And.intro (keepT FB.1 hb) FB.2
        have B2 := B1.trans (hb.mono B1.size)
        clear hb hK K hHeld1 B1
        try simp only [Act.put, List.setIfInBounds_toArray, List.set_cons_zero, List.set_cons_succ]
        refine wpAnyH_ready (rs := [5]) (by kernel_rfl) (by simp) ?_
        refine AllReadyH.cons (o := { dst := some 17, op := Op.makeMap 58 none, type := 58, pos := "fair.go:75", after := #[], guard := none }) rfl (fun K hK => ?_) AllReadyH.nil
        · go_simp
          have hb := below_one X2 (.map #[] 0)
          have hm := hM_made X2
          have hs := ls_alloc (o := .map #[] 0) hHeld2
          have hle := B2.size
          obtain ⟨mb, hmb⟩ : ∃ mb, X2.heap.size = mb := ⟨_, rfl⟩
          rw [hmb] at hm hle ⊢
          generalize X2.alloc (.map #[] 0) = X3 at hb hm hs ⊢
          have FM : HM X3 mb [] ∧ w2.heap.size ≤ mb := ⟨hm, hle⟩
          refine hK.out _ _ hs (fun hHeld3 => ?_)
          clear hm hs hle hmb
          replace FB := And.intro (keepT FB.1 hb) FB.2
          replace FG := owns_below FG hb
          have B3 := B2.trans (hb.mono B2.size)
          clear hb hK K hHeld2 B2
          try simp only [Act.put, List.setIfInBounds_toArray, List.set_cons_zero, List.set_cons_succ]
          refine wpAnyH_take (i := 6) (oi := { dst := some 18, op := Op.build 60 #[(0, Operand.tmp 13), (1, Operand.tmp 14), (2, Operand.tmp 16), (3, Operand.tmp 17)], type := 60, pos := "fair.go:75", after := #[{ on := 1, ground := Ground.data }, { on := 2, ground := Ground.data }, { on := 4, ground := Ground.data }, { on := 5, ground := Ground.data }], guard := none }) (v := ?vz9) rfl (by kernel_rfl) (by kernel_rfl) (by kernel_rfl) (fun _ _ _ h => h) (Or.inl ⟨by rfl, ?hyz9⟩) (by assumption) ?restz9
          case hyz9 => (intro w hSw; (try dsimp only at hSw); go_simp; (try with_reducible rfl))
          try simp only [Act.put, List.setIfInBounds_toArray, List.set_cons_zero, List.set_cons_succ]
          refine wpAnyH_ready (rs := [8]) (by kernel_rfl) (by simp) ?_
          refine AllReadyH.cons (o := { dst := none, op := Op.store 60 (Operand.tmp 7) (Operand.tmp 18), type := 0, pos := "fair.go:75", after := #[{ on := 7, ground := Ground.data }, { on := 6, ground := Ground.data }, { on := 4, ground := Ground.chain }, { on := 0, ground := Ground.phase }, { on := 1, ground := Ground.phase }, { on := 2, ground := Ground.phase }, { on := 3, ground := Ground.phase }, { on := 4, ground := Ground.phase }, { on := 5, ground := Ground.phase }, { on := 6, ground := Ground.phase }, { on := 7, ground := Ground.phase }], guard := none }) rfl (fun K hK => ?_) AllReadyH.nil
          rw [if_pos (by rfl)]
          refine wp_store_row 60 _ _ rfl q #[.int .i64 c.W, .slice a n cap, .slice ga k gc, .map (some mb)] (by rfl) (by rfl) 60 #[.int .i64 0, .slice none 0 0, .slice none 0 0, .map none] FB.1 (by kernel_rfl) rfl (by kernel_rfl) ?_
          refine hK.out _ _ (ls_row hHeld3 ⟨Nat.lt_of_lt_of_le pw FB.2, Nat.le_trans B2.out.size FB.2⟩) (fun hHeldE => ?_)
          try simp only [Act.put]
          refine wpAnyH_done (by kernel_rfl) ?_ _
          go_wp2_with fail
          go_meet
          exact ⟨q, ga, gc, mb, rfl, Lib.hid (vbox_store B3 FB FG FM)⟩
      · go_simp
        have hb := below_one X1 (.map #[] 0)
        have hm := hM_made X1
        have hs := ls_alloc (o := .map #[] 0) hHeld1
        have hle := B1.size
        obtain ⟨mb, hmb⟩ : ∃ mb, X1.heap.size = mb := ⟨_, rfl⟩
        rw [hmb] at hm hle ⊢
        generalize X1.alloc (.map #[] 0) = X2 at hb hm hs ⊢
        have FM : HM X2 mb [] ∧ w2.heap.size ≤ mb := ⟨hm, hle⟩
        refine hK.out _ _ hs (fun hHeld2 => ?_)
        clear hm hs hle hmb
        replace FB := And.intro (keepT FB.1 hb) FB.2
        have B2 := B1.trans (hb.mono B1.size)
        clear hb hK K hHeld1 B1
        try simp only [Act.put, List.setIfInBounds_toArray, List.set_cons_zero, List.set_cons_succ]
        refine wpAnyH_ready (rs := [4]) (by kernel_rfl) (by simp) ?_
        refine AllReadyH.cons (o := { dst := some 16, op := Op.call { callee := Callee.value (Operand.func 33), args := #[Operand.tmp 15], argTypes := #[33] }, type := 33, pos := "fair.go:75", after := #[{ on := 3, ground := Ground.data }], guard := none }) rfl (fun K hK => ?_) AllReadyH.nil
        · go_simp
          go_at_call 33
          with_reducible refine (CD.out _ hHeld2.1).mono ?_
          rintro e X3 ⟨ga, gc, rfl, ho, hb⟩
          go_wp2_with fail
          refine hK.out _ _ (ls_carry hHeld2 hb) (fun hHeld3 => ?_)
          have FG := owns_base ho B2.size
          clear ho
          replace FB := And.intro (keepT FB.1 hb) FB.2
          replace FM := And.intro (FM.1.below hb) FM.2
          have B3 := B2.trans (hb.mono B2.size)
          clear hb hK K hHeld2 B2
          try simp only [Act.put, List.setIfInBounds_toArray, List.set_cons_zero, List.set_cons_succ]
          refine wpAnyH_take (i := 6) (oi := { dst := some 18, op := Op.build 60 #[(0, Operand.tmp 13), (1, Operand.tmp 14), (2, Operand.tmp 16), (3, Operand.tmp 17)], type := 60, pos := "fair.go:75", after := #[{ on := 1, ground := Ground.data }, { on := 2, ground := Ground.data }, { on := 4, ground := Ground.data }, { on := 5, ground := Ground.data }], guard := none }) (v := ?vz10) rfl (by kernel_rfl) (by kernel_rfl) (by kernel_rfl) (fun _ _ _ h => h) (Or.inl ⟨by rfl, ?hyz10⟩) (by assumption) ?restz10
          case hyz10 => (intro w hSw; (try dsimp only at hSw); go_simp; (try with_reducible rfl))
          try simp only [Act.put, List.setIfInBounds_toArray, List.set_cons_zero, List.set_cons_succ]
          refine wpAnyH_ready (rs := [8]) (by kernel_rfl) (by simp) ?_
          refine AllReadyH.cons (o := { dst := none, op := Op.store 60 (Operand.tmp 7) (Operand.tmp 18), type := 0, pos := "fair.go:75", after := #[{ on := 7, ground := Ground.data }, { on := 6, ground := Ground.data }, { on := 4, ground := Ground.chain }, { on := 0, ground := Ground.phase }, { on := 1, ground := Ground.phase }, { on := 2, ground := Ground.phase }, { on := 3, ground := Ground.phase }, { on := 4, ground := Ground.phase }, { on := 5, ground := Ground.phase }, { on := 6, ground := Ground.phase }, { on := 7, ground := Ground.phase }], guard := none }) rfl (fun K hK => ?_) AllReadyH.nil
          rw [if_pos (by rfl)]
          refine wp_store_row 60 _ _ rfl q #[.int .i64 c.W, .slice a n cap, .slice ga k gc, .map (some mb)] (by rfl) (by rfl) 60 #[.int .i64 0, .slice none 0 0, .slice none 0 0, .map none] FB.1 (by kernel_rfl) rfl (by kernel_rfl) ?_
          refine hK.out _ _ (ls_row hHeld3 ⟨Nat.lt_of_lt_of_le pw FB.2, Nat.le_trans B2.out.size FB.2⟩) (fun hHeldE => ?_)
          try simp only [Act.put]
          refine wpAnyH_done (by kernel_rfl) ?_ _
          go_wp2_with fail
          go_meet
          exact ⟨q, ga, gc, mb, rfl, Lib.hid (vbox_store B3 FB FG FM)⟩
  case rest =>
  obtain ⟨q, ga, gc, mb, rfl, hV⟩ := hcut
  have c2 := cellT (i := 2) hV.out.box rfl
  clear hmm CD HG
  go_wp2_with fail
  clear c2
  go_loopw [9, 11, 22] (fun gv dv iv wr => ∃ (j : Nat), j ≤ k ∧ iv = .int .i64 j ∧ Hid (VBox c a n cap k G w2 wr q ga gc mb (linksL (G.take j) xs))) (fun _ _ iv _ => k - (intOf iv).toNat)
  case atStart => exact ⟨0, by omega, rfl, hV⟩
  case round =>
    clear hV
    obtain ⟨j, hj, rfl, hV⟩ := hrel
    have HB := Lib.hid (B2.out.trans (hV.out.b.mono B2.out.size))
    by_cases hlt : j < k
    · obtain ⟨gb, go, hga, hgc⟩ := hV.out.g.2 (by omega)
      have hz := hgc j hlt
      have hnx := linksL_next G xs j (by rw [HK.out]; exact hlt)
      obtain ⟨g, hg⟩ : ∃ g, G.getD j 0 = g := ⟨_, rfl⟩
      rw [hg] at hz hnx
      have CB := Lib.hid (tBetween_any 0 g a n cap xs wr (H.out.below HB.out) hn HX.out)
      have BLg := BL.out g
      have LLj := LL.out j
      have WFg := Lib.hid (WFB.out g)
      obtain ⟨L, hL⟩ : ∃ L, betL 0 g xs = L := ⟨_, rfl⟩
      obtain ⟨L0, hL0⟩ : ∃ L0, linksL (G.take j) xs = L0 := ⟨_, rfl⟩
      rw [hL] at hnx CB BLg WFg
      rw [hL0] at hnx LLj hV
      obtain ⟨m, hm⟩ : ∃ m, L.length = m := ⟨_, rfl⟩
      have LM := Lib.hid hm
      unfold RetN at CB
      rw [hm] at BLg CB
      have NX := Lib.hid hnx
      have LN := Lib.hid LLj
      have i1 : (0 : Int) ≤ (j : Int) := by omega
      have i2 : (j : Int) < (k : Int) := by omega
      have GA := Lib.hid hga
      rw [hga]
      clear hgc hg hL hL0 hm hnx LLj hga
      go_wp2_with (first | (go_at_call 34; refine CB.out.mono ?_; rintro e w3 ⟨ba, bc, rfl, ho, hb⟩) | fail)
      have V3 := Lib.hid (hV.out.below hb)
      have O3 := Lib.hid (RetN.holds ho)
      clear hz ho hb CB hV
      rw [← GA.out]
      go_loopw [11, 30] (fun dv kv wk => ∃ (i : Nat), i ≤ m ∧ kv = .int .i64 i ∧ Hid (VBox c a n cap k G w2 wk q ga gc mb (L0 ++ L.take i)) ∧ Hid (HoldsI .i64 wk ba m L)) (fun _ kv _ => m - (intOf kv).toNat)
      case atStart => exact ⟨0, by omega, rfl, Lib.hid (by simpa using V3.out), O3⟩
      case round =>
        obtain ⟨i, hi, rfl, hVk, hOk⟩ := hrel
        by_cases hil : i < m
        · obtain ⟨lb, lo, hla, hlc⟩ := hOk.out.2 (by omega)
          have hz := hlc i hil
          have wfz := WFg.out (L.getD i 0) (by rw [List.getD_eq_getElem?_getD, List.getElem?_eq_getElem (by rw [LM.out]; exact hil)]; exact List.getElem_mem _)
          have hnx := take_succ_getD L 0 i (by rw [LM.out]; exact hil)
          obtain ⟨z, hze⟩ : ∃ z, L.getD i 0 = z := ⟨_, rfl⟩
          rw [hze] at hz wfz hnx
          have c3 := cellT (i := 3) hVk.out.box rfl
          obtain ⟨D, hD⟩ : ∃ D, L0 ++ L.take i = D := ⟨_, rfl⟩
          rw [hD] at hVk
          obtain ⟨cnt, hcn, hmv⟩ := hVk.out.m
          obtain ⟨t, hcc⟩ : ∃ t, D.count z = t := ⟨_, rfl⟩
          have hgl : D.length ≤ 1001000000 := by
            rw [← hD, List.length_append, List.length_take]
            have h1 := LN.out; omega
          have hcl : t ≤ 1001000000 := by rw [← hcc]; exact Nat.le_trans (List.count_le_length) hgl
          have EC := Lib.hid (hfZ_get D z t hcc)
          have WF := Lib.hid (show wfI z from wfz)
          have MV := Lib.hid hmv
          have GN := Lib.hid (show L0 ++ L.take (i + 1) = D ++ [z] from by rw [hnx, ← List.append_assoc, hD])
          have CC := Lib.hid hcc
          have CN := Lib.hid (And.intro hcn hgl)
          have ew : IntKind.i64.wrap ((t : Int) + 1) = (t : Int) + 1 := by rw [IntKind.wrap_i64]; omega
          have j1 : (0 : Int) ≤ (i : Int) := by omega
          have j2 : (i : Int) < (m : Int) := by omega
          have LA := Lib.hid hla
          rw [hla]
          clear hlc wfz hnx hze hD hmv hcc hgl hcl hla hcn
          go_wp2_with (first | (at_lookup; refine wpList_get_mv mapTz rfl (.tmp 35) (.tmp 36) rfl rfl MV.out z rfl WF.out (.int .i64 (t : Int)) EC.out ?_) | (at_mapUpdate; refine wpList_put_mv mapTz rfl (.tmp 35) (.tmp 36) (.tmp 38) rfl rfl MV.out (by have := CN.out; unfold maxLen; omega) z (.int .i64 ((t : Int) + 1)) rfl rfl WF.out ?_; intro w6 m6 t6))
          have M6 := HM.next (w := w6) CN.out.1 CC.out m6
          rw [← GN.out] at M6
          have T6 : Turn (fun k => k = mb) wr w6 := TurnV.of_mapTurned t6 rfl
          have V6 := Lib.hid (hVk.out.turn T6 M6)
          have O6 := Lib.hid (holdsI_map hOk.out hVk.out.m T6)
          rw [← LA.out]
          clear m6 t6 M6 T6 hz c3
          go_roundw
          case rel => exact ⟨i + 1, by omega, by go_num, V6, O6⟩
          case measure => simp [intOf]; omega
        · obtain rfl : m = i := by omega
          have hV4 := hVk.out
          rw [List.take_of_length_le (by rw [LM.out]; exact Nat.le_refl _), ← NX.out] at hV4
          have V4 := Lib.hid hV4
          clear hV4 hVk hOk
          go_wp2_with fail
          (try rw [← GA.out])
          go_roundw
          case rel => exact ⟨j + 1, by omega, by go_num, V4⟩
          case measure => simp [intOf]; omega
    · obtain rfl : k = j := by omega
      have hV5 := hV.out
      rw [List.take_of_length_le (by rw [HK.out]; exact Nat.le_refl _)] at hV5
      have bp : wr.heap[p]? = some (.cells #[.int .i64 0, .slice none 0 0, .slice none 0 0, .map none] 60 (0, 0)) := keepT HP.out hV5.b
      have hpl : p < w2.heap.size := (Array.getElem?_eq_some_iff.1 HP.out).1
      have BP := Lib.hid bp
      have V5 := Lib.hid hV5
      clear hV hV5 bp
      go_upto_region 11 with fail
      go_wp2_with (first | (refine wpList_load_row rfl 60 (.tmp 7) rfl q rfl 60 #[.int .i64 c.W, .slice a n cap, .slice ga k gc, .map (some mb)] (0, 0) _ V5.out.box Try.underlying60 rfl (by kernel_rfl) ?_) | (refine wpList_store_row rfl 60 (.tmp 6) (.tmp 41) rfl p #[.int .i64 c.W, .slice a n cap, .slice ga k gc, .map (some mb)] rfl rfl 60 #[.int .i64 0, .slice none 0 0, .slice none 0 0, .map none] BP.out (by kernel_rfl) rfl (by kernel_rfl) ?_) | fail)
      (try simp only [Exit.inBlock, Exit.then])
      refine bodyPost_ret (results_cell_row rfl _ _ p 60 #[.int .i64 c.W, .slice a n cap, .slice ga k gc, .map (some mb)] (0, 0) _ rfl (setRow_heap _ p _ _ _ _ BP.out) Try.underlying60 rfl (by kernel_rfl)) rfl ?_
      have hV5 := V5.out
      refine ⟨ga, gc, mb, rfl, ⟨hV5.g.1, fun h0 => ?_⟩, hV5.m.block (setRow_other wr p mb _ (by have := hV5.mB; omega)), below_setRow HB.out (by have := PP.out; have := HP0.out; omega) _⟩
      obtain ⟨b, o, e1, e2⟩ := hV5.g.2 h0
      refine ⟨b, o, e1, fun i hi => (cell_setRow_other wr p _ ⟨b, o + i, none⟩ (show b ≠ p from ?_)).trans (e2 i hi)⟩
      have := hV5.gB b o none e1
      omega
end Go.Proofs.Yteloiibejkflhaa
