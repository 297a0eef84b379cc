/- texts joined -/
import Derived.Test.YtecdigcadmokfaaPkB
import Derived.Test.YtecdigcadmokfaaPkA
import Derived.Deep.AppendLies
import Derived.Laws.AppendOwn
import Derived.Test.YtecdigcadmokfaaChecked
import Derived.WalkLawsBesides
import Derived.WalkSpells
import Derived.Outline
/- net: the document's net in memory; is, New -/
namespace Go.Proofs.Ytecdigcadmokfaa
open Go.RowKit
set_option linter.unusedVariables false
set_option maxRecDepth 20000
def FrR (w : World) (S : Nat → Prop) (b : Nat) (x : GM) : Prop := HoldsB w x.fa x.fn x.bs ∧ (x.fa = none → x.fn = 0 ∧ x.fc = 0) ∧ ∀ fb fo, x.fa = some ⟨fb, fo, none⟩ → S fb ∧ fb ≠ b
/-- block b is the document's net of so many, the next is nx; G is on its way; its blocks lie in S -/
def RNAt (w : World) (b : Nat) (most nx : Int) (G : List GM) (S : Nat → Prop) : Prop :=
  ∃ a c, w.cell? ⟨b, 0, none⟩ = some (.slice a G.length c) ∧ w.cell? ⟨b, 1, none⟩ = some (.int .i64 most) ∧ w.cell? ⟨b, 2, none⟩ = some (.int .i64 nx) ∧ (∀ i, w.frozen? ⟨b, i, none⟩ = false) ∧
    w.ownsRow 0 42 5 (.slice a G.length c) G.length (gmV G) ∧ (∀ x ∈ G, FrR w S b x) ∧ S b ∧ (∀ g, a = some ⟨g, 0, none⟩ → S g ∧ g ≠ b) ∧ ∀ k, S k → k < w.heap.size
theorem RNAt.blocks {w w' : World} {b : Nat} {most nx : Int} {G : List GM} {S : Nat → Prop} (h : RNAt w b most nx G S) (hs : w.heap.size ≤ w'.heap.size) (hb : ∀ k, S k → w'.heap[k]? = w.heap[k]?) : RNAt w' b most nx G S := by
  obtain ⟨a, c, h1, h2, h3, h4, h5, h6, h7, h8, h9⟩ := h
  have eb := hb b h7
  exact ⟨a, c, (World.cell?_of_block (w := w) eb).trans h1, (World.cell?_of_block (w := w) eb).trans h2, (World.cell?_of_block (w := w) eb).trans h3, fun i => (World.frozen?_of_block (w := w) eb).trans (h4 i), owns_block0 h5 (fun g hg => hb g (h8 g hg).1), fun x hx => ⟨holdsB_blocks (h6 x hx).1 (fun fb fo e => hb fb ((h6 x hx).2.2 fb fo e).1), (h6 x hx).2⟩, h7, h8, fun k hk => Nat.lt_of_lt_of_le (h9 k hk) hs⟩
theorem RNAt.lt {w : World} {b : Nat} {most nx : Int} {G : List GM} {S : Nat → Prop} (h : RNAt w b most nx G S) : ∀ k, S k → k < w.heap.size := by obtain ⟨a, c, h1, h2, h3, h4, h5, h6, h7, h8, h9⟩ := h; exact h9
theorem RNAt.has {w : World} {b : Nat} {most nx : Int} {G : List GM} {S : Nat → Prop} (h : RNAt w b most nx G S) : S b := by obtain ⟨a, c, h1, h2, h3, h4, h5, h6, h7, h8, h9⟩ := h; exact h7
theorem RNAt.turn {w w' : World} {b : Nat} {most nx : Int} {G : List GM} {S F : Nat → Prop} (h : RNAt w b most nx G S) (t : Turn F w w') (hF : ∀ k, S k → ¬ F k) : RNAt w' b most nx G S :=
  h.blocks t.size fun k hk => t.block k (h.lt k hk) (hF k hk)
theorem RNAt.below {w w' : World} {b : Nat} {most nx : Int} {G : List GM} {S : Nat → Prop} (h : RNAt w b most nx G S) (t : Below w.heap.size w w') : RNAt w' b most nx G S :=
  h.blocks t.size fun k hk => t.block k (h.lt k hk)
theorem RNAt.next {w : World} {b : Nat} {most nx : Int} {G : List GM} {S : Nat → Prop} (h : RNAt w b most nx G S) (m : Int) : RNAt (w.setCell ⟨b, 2, none⟩ (.int .i64 m)) b most m G S ∧ Turn S w (w.setCell ⟨b, 2, none⟩ (.int .i64 m)) := by
  obtain ⟨a, c, h1, h2, h3, h4, h5, h6, h7, h8, h9⟩ := h
  refine ⟨⟨a, c, ?_, ?_, cset_at h3, fun i => ?_, owns_block0 h5 (fun g hg => heap_set_far (h8 g hg).2), fun x hx => ⟨holdsB_blocks (h6 x hx).1 (fun fb fo e => heap_set_far ((h6 x hx).2.2 fb fo e).2), (h6 x hx).2⟩, h7, h8, fun k hk => ?_⟩, Turn.setCell h7⟩
  · rw [cset_ne (by omega)]; exact h1
  · rw [cset_ne (by omega)]; exact h2
  · rw [fset_any]; exact h4 i
  · rw [show (w.setCell ⟨b, 2, none⟩ (.int .i64 m)).heap.size = w.heap.size by simp [World.setCell]]; exact h9 k hk
/-- the list laid anew -/
theorem RNAt.renew {w w3 : World} {b : Nat} {most nx : Int} {G G' : List GM} {S : Nat → Prop} {a : Option Addr} {c : Nat} (h : RNAt w b most nx G S) (hb : Below w.heap.size w w3) (ho : w3.ownsRow w.heap.size 42 5 (.slice a G'.length c) G'.length (gmV G'))
    (hf : ∀ x ∈ G', HoldsB w3 x.fa x.fn x.bs ∧ (x.fa = none → x.fn = 0 ∧ x.fc = 0) ∧ ∀ fb fo, x.fa = some ⟨fb, fo, none⟩ → (S fb ∧ fb ≠ b) ∨ (w.heap.size ≤ fb ∧ fb < w3.heap.size)) :
    (∃ S', RNAt (w3.setCell ⟨b, 0, none⟩ (.slice a G'.length c)) b most nx G' S' ∧ (∀ k, S' k → S k ∨ w.heap.size ≤ k)) ∧ Turn S w (w3.setCell ⟨b, 0, none⟩ (.slice a G'.length c)) := by
  obtain ⟨a0, c0, h1, h2, h3, h4, h5, h6, h7, h8, h9⟩ := h
  have hlt := h9 b h7
  have cb : ∀ i, w3.cell? ⟨b, i, none⟩ = w.cell? ⟨b, i, none⟩ := fun i => hb.cell (p := ⟨b, i, none⟩) hlt
  have hg : ∀ g, a = some ⟨g, 0, none⟩ → w.heap.size ≤ g ∧ g < w3.heap.size := fun g e => ho.lt g (by rw [e]; rfl)
  have hz := hb.size
  refine ⟨⟨fun k => S k ∨ (w.heap.size ≤ k ∧ k < w3.heap.size), ⟨a, c, cset_at ((cb 0).trans h1), ?_, ?_, fun i => ?_, ?_, fun x hx => ?_, Or.inl h7, fun g e => ⟨Or.inr (hg g e), by have := (hg g e).1; omega⟩, fun k hk => ?_⟩, fun k hk => hk.imp id (fun x => x.1)⟩, (Turn.of_below hb).trans (Turn.setCell h7)⟩
  · rw [cset_ne (by omega), cb]; exact h2
  · rw [cset_ne (by omega), cb]; exact h3
  · rw [fset_any]; exact (hb.frozen (p := ⟨b, i, none⟩) hlt).trans (h4 i)
  · have := owns_block0 (w' := w3.setCell ⟨b, 0, none⟩ (.slice a G'.length c)) ho (fun g e => heap_set_far (by have := (hg g e).1; omega))
    exact ⟨this.1, this.2.imp id (fun ⟨g, cap, cur, hv, hge, r⟩ => ⟨g, cap, cur, hv, Nat.zero_le _, r⟩)⟩
  · obtain ⟨f1, f2, f3⟩ := hf x hx
    have fne : ∀ fb fo, x.fa = some ⟨fb, fo, none⟩ → fb ≠ b := fun fb fo e => (f3 fb fo e).elim (fun t => t.2) (fun t => by omega)
    exact ⟨holdsB_blocks f1 (fun fb fo e => heap_set_far (fne fb fo e)), f2, fun fb fo e => ⟨(f3 fb fo e).imp (fun t => t.1) id, fne fb fo e⟩⟩
  · rw [show (w3.setCell ⟨b, 0, none⟩ (.slice a G'.length c)).heap.size = w3.heap.size by simp [World.setCell]]
    rcases hk with hk | hk
    · have := h9 k hk; omega
    · exact hk.2
theorem rIs_any {most nx : Int} {G : List GM} {S : Nat → Prop} (i : Int) (z : Bool) (b : Nat) (w : World) (h : RNAt w b most nx G S) (hz : decide (0 ≤ i ∧ i < (G.length : Int)) = z) :
    Calls Try.prog 35 #[.pointer (some ⟨b, 0, none⟩), .int .i64 i] w fun e w' => e = .returned (.bool z) ∧ w = w' := by
  obtain ⟨a, c, h1, -⟩ := h
  by_cases hi : 0 ≤ i
  · have d1 : decide (i ≥ 0) = true := decide_eq_true hi
    have d2 : decide (i < (G.length : Int)) = z := by rw [← hz]; simp [hi]
    clear hz
    go_enter Try.func35, Try.ntmps35
    go_wp2_with fail
    go_ret
    exact ⟨rfl, rfl⟩
  · have d1 : decide (i ≥ 0) = false := decide_eq_false hi
    obtain rfl : z = false := by rw [← hz]; exact decide_eq_false (fun h => hi h.1)
    clear hz
    go_enter Try.func35, Try.ntmps35
    go_wp2_with fail
    go_ret
    exact ⟨rfl, rfl⟩
theorem rNew_any (most : Int) (w : World) (h : 1 ≤ most ∧ most ≤ 64) :
    Calls Try.prog 10 #[.int .i64 most] w fun e w' => ∃ b S, e = .returned (.tuple #[.pointer (some ⟨b, 0, none⟩), .int .i64 0]) ∧ RNAt w' b most 0 [] S ∧ (∀ k, S k → w.heap.size ≤ k) ∧ Below w.heap.size w w' := by
  have d1 : decide (most < 1) = false := decide_eq_false (by omega)
  have d2 : decide (most > 64) = false := decide_eq_false (by omega)
  have d3 : decide (64 < most) = false := decide_eq_false (by omega)
  clear h
  go_enter Try.func10, Try.ntmps10
  go_wp2_with fail
  refine bodyPost_ret (v := .tuple #[.pointer (some ⟨w.heap.size, 0, none⟩), .int .i64 0]) (by simp [results, go_sem]) rfl ?_
  exact ⟨w.heap.size, fun k => k = w.heap.size, rfl, ⟨none, 0, by rw [cell_alloc rfl]; rfl, by rw [cell_alloc rfl]; rfl, by rw [cell_alloc rfl]; rfl, fun i => frozen_alloc rfl, World.ownsRow_nil _ _ _ _, fun x hx => by simp at hx, rfl, fun g hg => (by cases hg), fun k hk => by simp; omega⟩, fun k hk => by omega, below_one _ _⟩
end Go.Proofs.Ytecdigcadmokfaa
/- net: the document's Turned -/
namespace Go.Proofs.Ytecdigcadmokfaa
open Go.RowKit
set_option linter.unusedVariables false
set_option maxRecDepth 20000
set_option maxHeartbeats 1600000 in
theorem rturned_any (a : Option Addr) (n c : Nat) (bs : List Nat) (at_ x : Int) (w : World) (h : HoldsB w a n bs) (hnone : a = none → n = 0 ∧ c = 0) (h0 : 0 < n) (hn : n ≤ 1000000) :
    Calls Try.prog 38 #[.slice a n c, .int .i64 at_, .int .i64 x] w (RetB 5 w (Dm.turned bs at_ x)) := by
  obtain ⟨i0, hi, hz0, hz1, hz2⟩ := info_parts u8n_info
  have HVC := Lib.hid (h.values.cells (w' := w) ⟨rfl, rfl, rfl, Nat.le_refl _, fun _ _ _ => rfl⟩)
  have hbl : (bytesV bs).length = n * 1 := by rw [bytesV_length, h.len]; omega
  have hl := h.len
  have hk := Dm.k_eq n at_ h0
  have hkl := Dm.k_lt n at_ h0
  have hm := Dm.m_eq x
  have hmb := Dm.m_bd x
  have hbs := h.2
  obtain ⟨k, hkk⟩ : ∃ k, Dm.k n at_ = k := ⟨_, rfl⟩
  obtain ⟨m, hmm⟩ : ∃ m, Dm.m x = m := ⟨_, rfl⟩
  obtain ⟨y, hy⟩ : ∃ y, bs.getD k 0 = y := ⟨_, rfl⟩
  have hyb : y < 256 := by
    rw [← hy, List.getD_eq_getElem?_getD, List.getElem?_eq_getElem (by omega)]
    exact hbs _ (List.getElem_mem _)
  rw [hkk] at hk hkl
  rw [hmm] at hm hmb
  have hT : Dm.turned bs at_ x = bs.set k (y ^^^ m) := by unfold Dm.turned; rw [hl, hkk, hy, hmm]
  have HBS := Lib.hid hbs
  have TT := Lib.hid hT; have HY := Lib.hid hy; have HL := Lib.hid hl
  have z0 : ((n : Int) == 0) = false := by simp; omega
  have b1 := Dm.u64_bd at_
  have b2 := Dm.u64_bd x
  have w1 : IntKind.u64.wrap (n : Int) = (n : Int) := by simp only [IntKind.wrap, IntKind.signed, IntKind.bits]; simp; omega
  have w2 : IntKind.u64.wrap (1 + IntKind.u64.wrap x % 255) = (m : Int) := by rw [hm]; simp only [IntKind.wrap, IntKind.signed, IntKind.bits]; simp; omega
  have w3 : IntKind.u8.wrap (m : Int) = (m : Int) := by simp only [IntKind.wrap, IntKind.signed, IntKind.bits]; simp; omega
  have hx : bits BinOp.xor IntKind.u8 (y : Int) (m : Int) = ((y ^^^ m : Nat) : Int) := u8_xor_nat y m hyb (by omega)
  have w4 : IntKind.i64.wrap (k : Int) = (k : Int) := IntWalk.i64_in _ (by omega)
  have k1 : (0 : Int) ≤ (k : Int) := by omega
  have k2 : (k : Int) < (n : Int) := by omega
  have HNO := Lib.hid hnone
  clear h hnone hl hT hy hkk hmm hbs
  go_enter Try.func38, Try.ntmps38
  go_upto_region 2 with (at_builtin; refine wpList_append_any rfl (.const (.slice none 0 0)) (.tmp 9) 33 rfl w.heap.size 5 i0 _ 1 1 Try.underlying33 hi hz0 hz1 hz2 rfl (by decide) _ 0 [] rfl (World.ownsRow_nil _ _ _ _) a n c (bytesV bs) rfl HNO.out hbl HVC.out (bytesV_one _) (by unfold maxLen; omega) (by omega) (by simp) ?_; intro a3 c3 w3' ho hb hnil)
  rw [Nat.zero_add, List.nil_append] at ho
  obtain ⟨g, rfl⟩ : ∃ g, a3 = some ⟨g, 0, none⟩ := by
    obtain ⟨g, cap', hv⟩ := Joins.ownsRow_form ho (by omega)
    simp only [Value.slice.injEq] at hv
    exact ⟨g, hv.1⟩
  have O3 := Lib.hid ho; have B3 := Lib.hid hb
  obtain ⟨gb, go, hge, hc⟩ := (holdsB_of_values (owns_holds ho) HBS.out).at (by omega)
  injection hge with hge; injection hge with e1 e2; subst e1 e2
  have ck := hc k hkl
  rw [Nat.zero_add, HY.out] at ck
  clear hc
  have fk := ho.frozenAt k
  have B5 := Lib.hid (B3.out.setCell (p := ⟨g, k, none⟩) (O3.out.lt g rfl).1 (.int .u8 ((y ^^^ m : Nat) : Int)))
  have O5 := Lib.hid ((O3.out.stored k (.int .u8 ((y ^^^ m : Nat) : Int))).1)
  have hlen : (Dm.turned bs at_ x).length = n := by rw [Dm.turned_len, HL.out]
  have RR := Lib.hid (show RetB 5 w (Dm.turned bs at_ x) (.returned (.slice (some ⟨g, 0, none⟩) n c3)) (w3'.setCell ⟨g, k, none⟩ (.int .u8 ((y ^^^ m : Nat) : Int))) from
    ⟨some ⟨g, 0, none⟩, c3, by rw [hlen], by rw [hlen, TT.out, ← bytesV_set]; exact O5.out, B5.out, fun h => by cases h⟩)
  clear hlen
  go_wp2_with fail
  go_ret
  exact RR.out
end Go.Proofs.Ytecdigcadmokfaa
/- net: the document's Send -/
namespace Go.Proofs.Ytecdigcadmokfaa
open Go.RowKit
set_option linter.unusedVariables false
set_option maxRecDepth 20000
theorem HoldsB.ofDrewN {w : World} {a : Option Addr} {n : Nat} {bs : List Nat} (h : HoldsB w a n bs) (m : Nat) : HoldsB (w.drewN m) a n bs := h.below (below_drewN w m)
theorem rSend_full (f t : Int) (v : Value) (b : Nat) {most nx : Int} {G : List GM} {S : Nat → Prop} (w : World) (h : RNAt w b most nx G S) (hx : 0 ≤ nx ∧ nx ≤ 1000000000) (hf : most ≤ (G.length : Int)) :
    Calls Try.prog 14 #[.pointer (some ⟨b, 0, none⟩), .int .i64 f, .int .i64 t, v] w fun e w' => e = .returned (.tuple #[.int .i64 nx, .bool false]) ∧ RNAt w' b most (nx + 1) G S ∧ Turn S w w' := by
  have N1 := Lib.hid (h.next (nx + 1)).1
  have T1 := Lib.hid (h.next (nx + 1)).2
  have hw : IntKind.i64.wrap (nx + 1) = nx + 1 := IntWalk.i64_in _ (by omega)
  have d1 : decide ((G.length : Int) ≥ most) = true := decide_eq_true hf
  obtain ⟨a, c, h1, h2, h3, h4, -⟩ := h
  have fr := h4 2
  clear h4 hx hf
  go_enter Try.func14, Try.ntmps14
  go_upto_region 3 with fail
  clear h1 h2 h3 fr
  generalize w.setCell ⟨b, 2, none⟩ (.int .i64 (nx + 1)) = w1 at *
  obtain ⟨a, c, k1, k2, k3, -⟩ := N1.out
  go_quiet (fail)
  go_wp2_with fail
  exact bodyPost_ret (v := .tuple #[.int .i64 nx, .bool false]) (by simp [results, go_sem]) rfl ⟨rfl, N1.out.below (below_drewN _ _), T1.out.trans (Turn.drewN _ _ _)⟩
end Go.Proofs.Ytecdigcadmokfaa
/- net: the document's Send, with room -/
namespace Go.Proofs.Ytecdigcadmokfaa
open Go.RowKit
set_option linter.unusedVariables false
set_option maxRecDepth 20000
/-- what a row of its own holds may be read -/
theorem rowCells {w : World} {base : Nat} {e : TypeId} {size : Nat} {a : Option Addr} {n c : Nat} {xs : List Value} (h : w.ownsRow base e size (.slice a n c) n xs) : (a = none → n = 0 ∧ c = 0) ∧ ∀ ad, a = some ad → ∀ j u, xs[j]? = some u → w.cell? (ad.add j) = some u := by
  rcases Joins.ownsRow_forms h with ⟨e1, h0⟩ | ⟨g, cap, e1⟩
  · injection e1 with e2 e3 e4
    subst e2
    exact ⟨fun _ => ⟨h0, e4⟩, fun ad h => (by cases h)⟩
  · injection e1 with e2 e3 e4
    subst e2
    refine ⟨fun h => (by cases h), fun ad had j u hu => ?_⟩
    injection had with had
    subst had
    have hj := (List.getElem?_eq_some_iff.1 hu).1
    rw [Go.WideShapes.add_plain, Nat.zero_add, h.cellAt j (by have := h.1; omega), hu]
theorem RNAt.frame {w : World} {b : Nat} {most nx : Int} {G : List GM} {S : Nat → Prop} (h : RNAt w b most nx G S) {x : GM} (hx : x ∈ G) : HoldsB w x.fa x.fn x.bs ∧ (x.fa = none → x.fn = 0 ∧ x.fc = 0) ∧ ∀ fb fo, x.fa = some ⟨fb, fo, none⟩ → S fb ∧ fb ≠ b := by
  obtain ⟨a0, c0, -, -, -, -, -, h6, -⟩ := h
  exact h6 x hx
/-- the copy is appended to: what lay ahead of it stays, and what was made behind it -/
theorem third_far {w2 w3 wf w6 : World} {e : TypeId} {size n c : Nat} {a : Option Addr} {xs : List Value} {o : Obj} (hown : w3.ownsRow w2.heap.size e size (.slice a n c) n xs) (hb3 : Below w2.heap.size w2 w3) (hbf : Below w3.heap.size w3 wf) (hg : (wf.alloc o).grownBy w6 (Value.slice a n c).ownBlock) :
    Below w2.heap.size w2 w6 ∧ (∀ k, w3.heap.size ≤ k → k < wf.heap.size → w6.heap[k]? = wf.heap[k]?) ∧ wf.heap.size ≤ w6.heap.size := by
  have hz := hb3.size
  have hzf := hbf.size
  have hza : (wf.alloc o).heap.size = wf.heap.size + 1 := by simp
  have hz6 := hg.size
  have lt : ∀ k, (Value.slice a n c).ownBlock = some k → w2.heap.size ≤ k ∧ k < w3.heap.size := fun k hk => hown.lt k hk
  have ba : Below w2.heap.size w2 (wf.alloc o) := hb3.trans ((hbf.mono hz).trans ((below_one wf o).mono (by omega)))
  refine ⟨ba.grown hg (by omega) (fun k hk => (lt k hk).1), fun k h1 h2 => ?_, by omega⟩
  exact (hg.block k (by omega) (fun e => by have := (lt k e.symm).2; omega)).trans (Below.heap_alloc _ _ _ (by omega))
def RSendP (w : World) (b : Nat) (most nx : Int) (G : List GM) (S : Nat → Prop) (f t : Int) (bs : List Nat) (e : Ending) (w' : World) : Prop :=
  e = .returned (.tuple #[.int .i64 nx, .bool true]) ∧ ∃ fa fc S', RNAt w' b most (nx + 1) (G ++ [⟨nx, f, t, fa, bs.length, fc, false, bs⟩]) S' ∧ (∀ k, S' k → S k ∨ w.heap.size ≤ k) ∧ Turn S w w'
set_option maxHeartbeats 3200000 in
set_option maxRecDepth 100000 in
theorem rSend_core (f t : Int) (ia : Option Addr) (n ic : Nat) (bs : List Nat) (b : Nat) {most nx : Int} {G : List GM} {S : Nat → Prop} (w : World) (h : RNAt w b most nx G S) (hx : 0 ≤ nx ∧ nx ≤ 1000000000) (hf : (G.length : Int) < most) (hm : most ≤ 64)
    (hi : HoldsB (w.setCell ⟨b, 2, none⟩ (.int .i64 (nx + 1))) ia n bs) (hin : ia = none → n = 0 ∧ ic = 0) (hn : n ≤ 1000000) :
    Calls Try.prog 14 #[.pointer (some ⟨b, 0, none⟩), .int .i64 f, .int .i64 t, .slice ia n ic] w (RSendP w b most nx G S f t bs) := by
  obtain ⟨i0, hi0, hz0, hz1, hz2⟩ := info_parts gm_info
  obtain ⟨j0, hj0, hy0, hy1, hy2⟩ := info_parts u8n_info
  have hn2 : bs.length = n := hi.len
  have N1 := Lib.hid (h.next (nx + 1)).1
  have T1 := Lib.hid (h.next (nx + 1)).2
  have hw : IntKind.i64.wrap (nx + 1) = nx + 1 := IntWalk.i64_in _ (by omega)
  have HB1 := Lib.hid hi
  have HIN := Lib.hid hin
  have HLT := Lib.hid (show ∀ b ∈ bs, b < 256 from hi.2)
  have HBL := Lib.hid (show bs.length = n from hi.len)
  have d1 : decide ((G.length : Int) ≥ most) = false := decide_eq_false (by omega)
  have hl : G.length < 64 := by omega
  obtain ⟨a, c, h1, h2, h3, h4, -⟩ := h
  have fr := h4 2
  clear h4 hx hf hi hin hm
  go_enter Try.func14, Try.ntmps14
  go_upto_region 3 with fail
  clear h1 h2 h3 fr
  generalize w.setCell ⟨b, 2, none⟩ (.int .i64 (nx + 1)) = w1 at *
  obtain ⟨a, c, k1, k2, k3, -⟩ := N1.out
  go_quiet (fail)
  have N2 := Lib.hid (N1.out.below (below_drewN w1 nq))
  have HB2 := Lib.hid (HB1.out.below (below_drewN w1 nq))
  have T2 := Lib.hid (T1.out.trans (Turn.drewN _ w1 nq))
  clear k1 k2 k3 N1 T1 HB1
  generalize w1.drewN nq = w2 at *
  obtain ⟨a, c, k1, -, -, fz, own, fr6, hSb, -, hSl⟩ := N2.out
  have f1 := fz 0
  have OW := Lib.hid own
  have LB2 := Lib.hid (hSl b hSb)
  have RC1 := Lib.hid (rowCells own)
  have GL := Lib.hid (gmV_len G)
  have HBC := Lib.hid (show (ia = none → n = 0 ∧ ic = 0) ∧ ∀ w', Below w2.heap.size w2 w' → ∀ ad, ia = some ad → ∀ j u, (bytesV bs)[j]? = some u → w'.cell? (ad.add j) = some u from ⟨HIN.out, fun w' hb => (HB2.out.below hb).values.cells (w' := w') ⟨rfl, rfl, rfl, Nat.le_refl _, fun _ _ _ => rfl⟩⟩)
  have BL := Lib.hid (show (bytesV bs).length = n * 1 from by rw [bytesV_length, HBL.out]; omega)
  clear fz own fr6 hSb hSl
  go_upto_region 6 with (at_builtin; first
    | (refine wpList_append_any rfl (.const (.slice none 0 0)) (.tmp 37) 46 rfl w2.heap.size 42 i0 _ 5 56 Try.underlying46 hi0 hz0 hz1 hz2 rfl (by decide) _ 0 [] rfl (World.ownsRow_nil _ _ _ _) a G.length c (gmV G) rfl RC1.out.1 GL.out RC1.out.2 (gmV_one _) (by unfold maxLen; omega) (by omega) (Nat.le_refl _) ?_; intro a3 c3 w3 hown3 hb3 hnil3; rw [Nat.zero_add, List.nil_append] at hown3)
    | (refine wpList_append_any rfl (.const (.slice none 0 0)) (.tmp 42) 33 rfl w3.heap.size 5 j0 _ 1 1 Try.underlying33 hj0 hy0 hy1 hy2 rfl (by decide) _ 0 [] rfl (World.ownsRow_nil _ _ _ _) ia n ic (bytesV bs) rfl HBC.out.1 BL.out (HBC.out.2 _ hb3) (bytesV_one _) (by unfold maxLen; omega) (by omega) (Nat.le_refl _) ?_; intro fa fc wf hownf hbf hnilf; rw [Nat.zero_add, List.nil_append] at hownf; have OW3 := owns_below hown3 hbf)
    | (refine wpList_append_lies _ rfl (.tmp 38) (.tmp 45) 46 rfl w2.heap.size 42 i0 _ 5 56 Try.underlying46 hi0 hz0 hz1 hz2 rfl (by omega) (.slice a3 G.length c3) G.length (gmV G) (by simp [Act.eval]) (OW3.alloc _) ⟨wf.heap.size, 0, none⟩ 1 1 [.int .i64 nx, .int .i64 f, .int .i64 t, .slice fa n fc, .bool false] (by simp [Act.eval]) (by rfl) (World.news_of_block (cs := #[.int .i64 nx, .int .i64 f, .int .i64 t, .slice fa n fc, .bool false]) (t := 42) (fr := (0, 0)) (heap_alloc_new wf _)) (by simp [Value.oneCell']) (by omega) (by unfold maxLen; omega) (by omega) (by have := hb3.size; have := hbf.size; simp; omega) (wf.heap.size + 1) (by simp) ?_; intro g6 c6 w6 hown6 hgrow6 hat6 hlt6; obtain ⟨bl6, far6, sz6⟩ := third_far hown3 hb3 hbf hgrow6; have ky := (bl6.cell (p := ⟨b, 0, none⟩) LB2.out).trans k1; have fy := (bl6.frozen (p := ⟨b, 0, none⟩) LB2.out).trans f1))
  have RN := Lib.hid (N2.out.renew (G' := G ++ [⟨nx, f, t, fa, n, fc, false, bs⟩]) (a := some ⟨g6, 0, none⟩) (c := c6) bl6 (by rw [List.length_append, gmV_app]; exact hown6) (fun y hy => by
    rcases List.mem_append.1 hy with hy | hy
    · obtain ⟨q1, q2, q3⟩ := N2.out.frame hy
      exact ⟨q1.below bl6, q2, fun fb fo e => Or.inl (q3 fb fo e)⟩
    · simp at hy
      subst hy
      have lf : ∀ fb fo, fa = some ⟨fb, fo, none⟩ → w3.heap.size ≤ fb ∧ fb < wf.heap.size := fun fb fo e => by
        rcases Joins.ownsRow_forms hownf with ⟨e1, _⟩ | ⟨g, cap, e1⟩
        · injection e1 with e2; rw [e] at e2; cases e2
        · injection e1 with e2; rw [e] at e2; injection e2 with e2; injection e2 with e2 e3; subst e2; subst e3; rw [e] at hownf; exact hownf.lt _ rfl
      refine ⟨holdsB_blocks (holdsB_of_values (owns_holds hownf) HLT.out) (fun fb fo e => far6 fb (lf fb fo e).1 (lf fb fo e).2), fun e => by simpa using hnilf e, fun fb fo e => Or.inr ⟨Nat.le_trans hb3.size (lf fb fo e).1, Nat.lt_of_lt_of_le (lf fb fo e).2 sz6⟩⟩))
  rw [List.length_append] at RN
  clear hown6 hgrow6 hat6 hlt6 ky fy hown3 hb3 hnil3 hownf hbf hnilf OW3 far6
  go_wp2_with fail
  obtain ⟨⟨S', R1, R2⟩, R3⟩ := RN.out
  subst hn2
  refine bodyPost_ret (v := .tuple #[.int .i64 nx, .bool true]) (by simp [results, go_sem]) rfl ⟨rfl, fa, fc, S', R1, fun k hk => (R2 k hk).imp id (fun x => Nat.le_trans T2.out.size x), T2.out.trans R3⟩
theorem rSend_in (f t : Int) (ia : Option Addr) (n ic : Nat) (bs : List Nat) (b : Nat) {most nx : Int} {G : List GM} {S : Nat → Prop} (w : World) (h : RNAt w b most nx G S) (hx : 0 ≤ nx ∧ nx ≤ 1000000000) (hf : (G.length : Int) < most) (hm : most ≤ 64)
    (hi : HoldsB w ia n bs) (hin : ia = none → n = 0 ∧ ic = 0) (hn : n ≤ 1000000) (hiS : ∀ fb fo, ia = some ⟨fb, fo, none⟩ → ¬ S fb) :
    Calls Try.prog 14 #[.pointer (some ⟨b, 0, none⟩), .int .i64 f, .int .i64 t, .slice ia n ic] w (RSendP w b most nx G S f t bs) :=
  rSend_core f t ia n ic bs b w h hx hf hm (holdsB_blocks hi (fun fb fo e => heap_set_far (fun e2 => hiS fb fo e (by rw [e2]; exact h.has)))) hin hn
end Go.Proofs.Ytecdigcadmokfaa
/- append at a step of a region that draws: the new value written out -/
namespace Go.Proofs.Ytecdigcadmokfaa
open Go.RowKit
set_option linter.unusedVariables false
set_option maxRecDepth 20000
theorem step_append_some {P : Program} {w : World} {ops : Array Oper} {o : Oper} {a : Act} {K : Act → World → Prop} {Q : Exit → Act → World → Prop} {E : Prop} (hgd : o.guard = none) (s x : Operand) (t : TypeId)
    (ho : o.op = .call { callee := .builtin .append, args := #[s, x], argTypes := #[t, t] })
    (base : Nat) (e : TypeId) (i : TypeInfo) (z : Value) (size bytes : Nat) (ht : P.underlying t = some (.slice e)) (hi : P.info? e = some i) (hz : i.zero = some z)
    (hsize : i.size = size) (hby : i.bytes = bytes) (hzs : z.cells.size = size) (hsz : 0 < size)
    (v : Value) (n : Nat) (xs : List Value) (hs : a.eval s = v) (hown : w.ownsRow base e size v n xs)
    (ad : Addr) (m c : Nat) (news : List Value) (hx : a.eval x = .slice (some ad) m c) (hl : news.length = m * size)
    (hnews : ∀ j u, news[j]? = some u → w.cell? (ad.add j) = some u) (h1 : ∀ u ∈ news, u.oneCell' = true)
    (h63 : n + m ≤ maxLen) (hbytes : (n + m) * bytes ≤ 140737488355328) (hbase : base ≤ w.heap.size) (r : Nat) (ys : List Value) (hr : n + m = r) (hy : xs ++ news = ys)
    (h : ∀ a' c' w', w'.ownsRow base e size (.slice a' r c') r ys → Below base w w' → (a' = none → r = 0 ∧ c' = 0) → K (a.put o.dst (.slice a' r c')) w') :
    if Region.wanted o (yielded ops a.tmps) = true then Oper.wp P o a w K Q else E := by
  have hw : Region.wanted o (yielded ops a.tmps) = true := by simp [Region.wanted, hgd]
  rw [if_pos hw]
  subst hr hy
  refine wp_append_own w s x t ho base e i z size bytes ht hi hz hsize hby hzs hsz v n xs hs hown ad m c news hx hl hnews h1 h63 hbytes hbase fun v' w' h2 h3 _ => ?_
  have hb' := (Below.refl base w).grown h3 hbase fun k hk => (hown.lt k hk).1
  rcases Joins.ownsRow_forms h2 with ⟨rfl, h0⟩ | ⟨g, cap, rfl⟩
  · have := h none 0 w' (by rw [h0] at h2 ⊢; exact h2) hb' (fun _ => ⟨h0, rfl⟩)
    rw [h0] at this
    exact this
  · exact h _ _ w' h2 hb' (fun h => by cases h)
end Go.Proofs.Ytecdigcadmokfaa
/- net: the document's Deliver -/
namespace Go.Proofs.Ytecdigcadmokfaa
open Go.RowKit
set_option linter.unusedVariables false
set_option maxRecDepth 20000
theorem gadd_block (a : Addr) (n : Nat) : (a.add n).block = a.block := by unfold Addr.add; split <;> rfl
theorem RNAt.renew_sub {w w3 : World} {b r : Nat} {most nx : Int} {G G' : List GM} {S : Nat → Prop} {a : Option Addr} {c : Nat} (h : RNAt w b most nx G S) (hb : Below w.heap.size w w3) (hr : G'.length = r) (ho : w3.ownsRow w.heap.size 42 5 (.slice a r c) r (gmV G')) (hG : ∀ x ∈ G', x ∈ G) :
    (∃ S', RNAt (w3.setCell ⟨b, 0, none⟩ (.slice a r c)) b most nx G' S' ∧ (∀ k, S' k → S k ∨ w.heap.size ≤ k)) ∧ Turn S w (w3.setCell ⟨b, 0, none⟩ (.slice a r c)) := by
  subst hr
  refine h.renew hb ho fun x hx => ?_
  obtain ⟨a0, c0, -, -, -, -, -, h6, -⟩ := h
  obtain ⟨f1, f2, f3⟩ := h6 x (hG x hx)
  exact ⟨f1.below hb, f2, fun fb fo e => Or.inl (f3 fb fo e)⟩
theorem RNAt.keepsB {w w' : World} {b : Nat} {most nx : Int} {G : List GM} {S : Nat → Prop} {a : Option Addr} {n : Nat} {bs : List Nat} (h : HoldsB w a n bs) {F : Nat → Prop} (t : Turn F w w') (hF : ∀ fb fo, a = some ⟨fb, fo, none⟩ → fb < w.heap.size ∧ ¬ F fb) : HoldsB w' a n bs :=
  holdsB_blocks h fun fb fo e => t.block fb (hF fb fo e).1 (hF fb fo e).2
theorem rDeliver_out (i : Int) (b : Nat) {most nx : Int} {G : List GM} {S : Nat → Prop} (w : World) (h : RNAt w b most nx G S) (hi : ¬ (0 ≤ i ∧ i < (G.length : Int))) : Calls Try.prog 18 #[.pointer (some ⟨b, 0, none⟩), .int .i64 i] w fun e w' => e = .returned (.tuple #[.agg #[.int .i64 0, .int .i64 0, .int .i64 0, .slice none 0 0, .bool false], .bool false]) ∧ Below w.heap.size w w' := by
  have CH := Lib.hid (rIs_any i false b _ (h.below (below_one w (.cells #[.int .i64 0, .int .i64 0, .int .i64 0, .slice none 0 0, .bool false] 42))) (decide_eq_false hi))
  clear h hi
  go_enter Try.func18, Try.ntmps18
  go_wp2_with fail
  refine CH.out.mono ?_
  rintro e w' ⟨rfl, rfl⟩
  go_wp2_with fail
  have hge : w.heap.size ≤ w.heap.size := Nat.le_refl _
  refine bodyPost_ret (v := .tuple #[.agg #[.int .i64 0, .int .i64 0, .int .i64 0, .slice none 0 0, .bool false], .bool false]) (by simp [results, go_sem]) rfl ⟨rfl, ?_⟩
  first
    | exact below_one _ _
    | exact (((((below_one w _).setCell (p := ⟨w.heap.size, 0, none⟩) hge _).setCell (p := ⟨w.heap.size, 1, none⟩) hge _).setCell (p := ⟨w.heap.size, 2, none⟩) hge _).setCell (p := ⟨w.heap.size, 3, none⟩) hge _).setCell (p := ⟨w.heap.size, 4, none⟩) hge _
def RDeliverP (w : World) (b : Nat) (most nx : Int) (G : List GM) (S : Nat → Prop) (i : Nat) (x : GM) (e : Ending) (w' : World) : Prop :=
  e = .returned (.tuple #[.agg #[.int .i64 x.id, .int .i64 x.frm, .int .i64 x.dst, .slice x.fa x.fn x.fc, .bool x.sp], .bool true]) ∧ ∃ S', RNAt w' b most nx (G.take i ++ G.drop (i + 1)) S' ∧ (∀ k, S' k → S k ∨ w.heap.size ≤ k) ∧ Turn S w w' ∧ HoldsB w' x.fa x.fn x.bs
set_option maxHeartbeats 6400000 in
set_option maxRecDepth 100000 in
theorem rDeliver_in (i : Nat) (x : GM) (b : Nat) {most nx : Int} {G : List GM} {S : Nat → Prop} (w : World) (h : RNAt w b most nx G S) (hi : i < G.length) (hl : G.length ≤ 64) (hx : G.getD i gm0 = x) :
    Calls Try.prog 18 #[.pointer (some ⟨b, 0, none⟩), .int .i64 i] w (RDeliverP w b most nx G S i x) := by
  obtain ⟨i0, hi0, hz0, hz1, hz2⟩ := info_parts gm_info
  have CH := Lib.hid (rIs_any i true b _ (h.below (below_one w (.cells #[.int .i64 0, .int .i64 0, .int .i64 0, .slice none 0 0, .bool false] 42))) (decide_eq_true ⟨by omega, by omega⟩))
  have H := Lib.hid h
  have START := Lib.hid (ndel_start w x 42 42 (0, 0) (0, 0))
  have HX := Lib.hid (show x ∈ G from by rw [← hx, List.getD_eq_getElem?_getD, List.getElem?_eq_getElem hi]; simp)
  obtain ⟨n, hn⟩ : ∃ n, G.length = n := ⟨_, rfl⟩
  have HN := Lib.hid hn
  obtain ⟨a, c, k0, -, -, fz, hown, -, hSb, -, hSl⟩ := h
  rw [hn] at hown hi hl k0
  have LB := Lib.hid (hSl b hSb)
  have HSL := Lib.hid hSl
  have K0 := Lib.hid k0; have F0 := Lib.hid (fz 0)
  have OW := Lib.hid hown
  obtain ⟨g, rfl⟩ : ∃ g, a = some ⟨g, 0, none⟩ := by
    obtain ⟨g, cap', hv⟩ := Joins.ownsRow_form hown (by omega)
    simp only [Value.slice.injEq] at hv
    exact ⟨g, hv.1⟩
  have hnc : n ≤ c := by
    rcases hown.2 with ⟨h1, _⟩ | ⟨g', cap', cur, hv, _, _, hc, _⟩
    · cases h1
    · injection hv with _ _ hv; omega
  have B1 := below_one w (.cells #[.int .i64 0, .int .i64 0, .int .i64 0, .slice none 0 0, .bool false] 42)
  have k2 := (B1.cell (p := ⟨b, 0, none⟩) LB.out).trans k0
  have hown1 := owns_below hown B1
  obtain ⟨v0, v1, v2, v3, v4⟩ := gmV_at G i (by omega)
  rw [hx] at v0 v1 v2 v3 v4
  have x0 := (hown1.cellAt (i * 5) (by omega)).trans v0
  have x1 := (hown1.cellAt (i * 5 + 1) (by omega)).trans v1
  have x2 := (hown1.cellAt (i * 5 + 2) (by omega)).trans v2
  have x3 := (hown1.cellAt (i * 5 + 3) (by omega)).trans v3
  have x4 := (hown1.cellAt (i * 5 + 4) (by omega)).trans v4
  have y1 : (0 : Int) ≤ (i : Int) := by omega
  have y2 : (i : Int) < (n : Int) := by omega
  have hw : IntKind.i64.wrap ((i : Int) + 1) = (i : Int) + 1 := IntWalk.i64_in _ (by omega)
  clear hx hn fz hSb hSl v0 v1 v2 v3 v4 B1 hown hown1 k0
  go_enter Try.func18, Try.ntmps18
  go_wp2_with fail
  refine CH.out.mono ?_
  rintro e w' ⟨rfl, rfl⟩
  clear CH
  go_upto_region 4 with fail
  obtain ⟨hb2, hA2, hf2, hX2, hs2⟩ := START.out
  have K2 := Lib.hid ((hb2.cell (p := ⟨b, 0, none⟩) LB.out).trans K0.out)
  have F2 := Lib.hid ((hb2.frozen (p := ⟨b, 0, none⟩) LB.out).trans F0.out)
  have W2 := Lib.hid (owns_below OW.out hb2)
  clear START x0 x1 x2 x3 x4 k2
  generalize (w.alloc (.cells #[.int .i64 0, .int .i64 0, .int .i64 0, .slice none 0 0, .bool false] 42)).alloc (.cells #[.int .i64 x.id, .int .i64 x.frm, .int .i64 x.dst, .slice x.fa x.fn x.fc, .bool x.sp] 42) = w2 at *
  obtain ⟨p, hp⟩ : ∃ p, w.heap.size = p := ⟨_, rfl⟩
  have HPS := Lib.hid hp
  rw [hp] at hA2 hf2 hX2 hs2
  rw [hp]
  have B2 := Lib.hid hb2; have A2 := Lib.hid hA2; have X2 := Lib.hid hX2; have FF2 := Lib.hid hf2; have SZ2 := Lib.hid hs2
  have LB2 := Lib.hid (show b < w2.heap.size from Nat.lt_of_lt_of_le LB.out hb2.size)
  clear hb2 hA2 hX2 hf2 hp hs2
  obtain ⟨r, hr⟩ : ∃ r, (G.take i ++ G.drop (i + 1)).length = r := ⟨_, rfl⟩
  have HR := Lib.hid hr
  have hr2 : i + (n - (i + 1)) = r := by rw [← hr, List.length_append, List.length_take, List.length_drop, HN.out]; omega
  have L1 := Lib.hid (show (gmV (G.take i)).length = i * 5 from by rw [gmV_len, List.length_take, HN.out]; congr 1; omega)
  have L2 := Lib.hid (show (gmV (G.drop (i + 1))).length = (n - (i + 1)) * 5 from by rw [gmV_len, List.length_drop, HN.out])
  have E12 := Lib.hid (show gmV (G.take i) ++ gmV (G.drop (i + 1)) = gmV (G.take i ++ G.drop (i + 1)) from (gmV_app _ _).symm)
  have NW1 := Lib.hid (show ∀ j u, (gmV (G.take i))[j]? = some u → w2.drew.cell? ((⟨g, 0, none⟩ : Addr).add j) = some u from fun j u hu => by
    have hj := (List.getElem?_eq_some_iff.1 hu).1
    rw [L1.out] at hj
    rw [Go.WideShapes.add_plain, Nat.zero_add]
    refine (W2.out.cellAt j (by omega)).trans ?_
    rw [← gmV_take, List.getElem?_take, if_pos hj] at hu
    exact hu)
  obtain ⟨A, hA, hsrc⟩ : ∃ A : Addr, (if c = i + 1 then some (⟨g, 0, none⟩ : Addr) else some ⟨g, (i + 1) * 5, none⟩) = some A ∧ Hid (∀ j u, (gmV (G.drop (i + 1)))[j]? = some u → w2.cell? (A.add j) = some u ∧ A.block = g) := by
    by_cases hc : c = i + 1
    · refine ⟨⟨g, 0, none⟩, by simp [hc], Lib.hid (fun t u hu => ?_)⟩
      have h0 : (gmV (G.drop (i + 1))).length = 0 := by rw [L2.out]; omega
      rw [List.length_eq_zero_iff.1 h0] at hu
      simp at hu
    · refine ⟨⟨g, (i + 1) * 5, none⟩, by simp [hc], Lib.hid (fun t u hu => ⟨?_, rfl⟩)⟩
      have ht := (List.getElem?_eq_some_iff.1 hu).1
      rw [L2.out] at ht
      rw [Go.WideShapes.add_plain, W2.out.cellAt ((i + 1) * 5 + t) (by omega)]
      rw [← gmV_drop, List.getElem?_drop] at hu
      exact hu
  have LG := Lib.hid (W2.out.lt g rfl).2
  have hl1 : i ≤ c := by omega
  have hl2 : i + 1 ≤ c := by omega
  have hl3 : i + 1 ≤ n := by omega
  have hl4 : (0 : Int) ≤ (i : Int) + 1 := by omega
  have hl5 : (i : Int) + 1 ≤ (n : Int) := by omega
  clear hr
  have k2 := K2.out
  have k3 : w2.drew.cell? ⟨b, 0, none⟩ = some (.slice (some ⟨g, 0, none⟩) n c) := K2.out
  go_region_law
    (first
      | (refine step_append_some (by rfl) (.const (.slice none 0 0)) (.tmp 25) 46 (by rfl) w2.heap.size 42 i0 _ 5 56 Try.underlying46 hi0 hz0 hz1 hz2 rfl (by decide) _ 0 [] (by rfl) (World.ownsRow_nil _ _ _ _) ⟨g, 0, none⟩ i c (gmV (G.take i)) (by simp [Act.eval, Act.put]) L1.out NW1.out (gmV_one _) (by unfold maxLen; omega) (by omega) (Nat.le_refl _) i (gmV (G.take i)) (Nat.zero_add _) (List.nil_append _) ?_; intro a3 c3 w3 hown3 hb3 hnil3; have ka := (hb3.cell (p := ⟨b, 0, none⟩) LB2.out).trans K2.out)
      | (refine step_append_some (by rfl) (.tmp 26) (.tmp 33) 46 (by rfl) w2.heap.size 42 i0 _ 5 56 Try.underlying46 hi0 hz0 hz1 hz2 rfl (by decide) _ i (gmV (G.take i)) (by simp [Act.eval, Act.put]) hown3 A (n - (i + 1)) (c - (i + 1)) (gmV (G.drop (i + 1))) (by simp [Act.eval, Act.put]) L2.out (fun j u hu => (hb3.cell (by rw [show (A.add j).block = g from by rw [gadd_block]; exact (hsrc.out j u hu).2]; exact LG.out)).trans (hsrc.out j u hu).1) (gmV_one _) (by unfold maxLen; omega) (by omega) hb3.size r (gmV (G.take i ++ G.drop (i + 1))) hr2 E12.out ?_; intro a4 c4 w4 hown4 hb4 hnil4; have ky := (hb4.cell (p := ⟨b, 0, none⟩) LB2.out).trans ((hb3.cell (p := ⟨b, 0, none⟩) LB2.out).trans K2.out); have fy := (hb4.frozen (p := ⟨b, 0, none⟩) LB2.out).trans ((hb3.frozen (p := ⟨b, 0, none⟩) LB2.out).trans F2.out)))
  all_goals
    have B4 := Lib.hid (show Below w2.heap.size w2 w4 from (show Below w2.heap.size w2 w3 from (Below.refl _ _).drew.trans hb3).trans hb4)
    have RN := Lib.hid ((H.out.below B2.out).renew_sub (r := r) B4.out HR.out hown4 (fun y hy => by
      rcases List.mem_append.1 hy with h | h
      · exact List.mem_of_mem_take h
      · exact List.mem_of_mem_drop h))
    have pne : ¬ p = b := by have := HPS.out; have := LB.out; omega
    have pne1 : ¬ p + 1 = b := by have := HPS.out; have := LB.out; omega
    have A4 := Lib.hid ((A2.out.below B4.out).of (w' := w4.setCell ⟨b, 0, none⟩ (.slice a4 r c4)) fun i => cset_far (fun e => pne e.symm))
    have X4 := Lib.hid ((X2.out.below B4.out).of (w' := w4.setCell ⟨b, 0, none⟩ (.slice a4 r c4)) fun i => cset_far (fun e => pne1 e.symm))
    have FF4 := Lib.hid (fun i => (fset_any (w := w4) (a := ⟨b, 0, none⟩) (v := .slice a4 r c4) (p := ⟨p, i, none⟩)).trans ((B4.out.frozen (p := ⟨p, i, none⟩) (lt_of_cell A2.out.1)).trans (FF2.out i)))
    have XB := Lib.hid (show HoldsB (w4.setCell ⟨b, 0, none⟩ (.slice a4 r c4)) x.fa x.fn x.bs from holdsB_blocks (((H.out.frame HX.out).1.below B2.out).below B4.out) (fun fb fo e => heap_set_far ((H.out.frame HX.out).2.2 fb fo e).2))
    clear ky fy hown3 hb3 hnil3 ka hown4 hb4 hnil4 k2 k3
    go_upto_region 5 with fail
    generalize w4.setCell ⟨b, 0, none⟩ (.slice a4 r c4) = w5 at *
    have hA := A4.out
    have hX := X4.out
    unfold GmIn at hA hX
    obtain ⟨y0, y1', y2', y3, y4⟩ := hA
    obtain ⟨x0, x1, x2, x3, x4⟩ := hX
    have F6 := FF4.out
    go_wp2_with fail
    have TS := gturn_store w5 p x
    obtain ⟨⟨S', R1, R2⟩, R3⟩ := RN.out
    have hnS : ∀ k, S' k → k ≠ p := fun k hk e => by
      have hp := HPS.out
      have hs := SZ2.out
      rcases R2 k hk with h | h
      · have := HSL.out k h; omega
      · omega
    refine bodyPost_ret (v := .tuple #[.agg #[.int .i64 x.id, .int .i64 x.frm, .int .i64 x.dst, .slice x.fa x.fn x.fc, .bool x.sp], .bool true]) (by simp [results, go_sem, y0, y1', y2', y3, y4]) rfl ⟨rfl, S', R1.turn TS (fun k hk e => hnS k hk e), fun k hk => (R2 k hk).imp id (fun x => Nat.le_trans B2.out.size x), ?_, ?_⟩
    · exact ((Turn.of_below B2.out).trans R3).trans' TS (fun k hk => Or.inr (by rw [hk, HPS.out]; exact Nat.le_refl _))
    · refine holdsB_blocks XB.out (fun fb fo e => ?_)
      have q := ((H.out.frame HX.out).2.2 fb fo e).1
      have q2 := HSL.out fb q
      exact TS.block fb (Nat.lt_of_lt_of_le q2 (Nat.le_trans B2.out.size R3.size)) (fun e2 => by subst e2; have h2 := HPS.out; omega)
end Go.Proofs.Ytecdigcadmokfaa
/- net: List -/
namespace Go.Proofs.Ytecdigcadmokfaa
open Go.RowKit
set_option linter.unusedVariables false
set_option maxRecDepth 20000
/-- a row of datagrams of the call's own, its frames the call's own, each in a block of its own -/
structure GOwn (w0 w : World) (a : Option Addr) (c : Nat) (K : List GM) : Prop where
  row : w.ownsRow w0.heap.size 42 5 (.slice a K.length c) K.length (gmV K)
  fr : ∀ x ∈ K, w.ownsRow w0.heap.size 5 1 (.slice x.fa x.fn x.fc) x.fn (bytesV x.bs) ∧ ∀ b ∈ x.bs, b < 256
  off : ∀ x ∈ K, ∀ g, x.fa = some ⟨g, 0, none⟩ → a ≠ some ⟨g, 0, none⟩
  two : K.Pairwise fun x y => ∀ g, x.fa = some ⟨g, 0, none⟩ → y.fa ≠ some ⟨g, 0, none⟩
  bel : Below w0.heap.size w0 w
theorem GOwn.more {w0 w w' : World} {a : Option Addr} {c : Nat} {K : List GM} (h : GOwn w0 w a c K) (hb : Below w.heap.size w w') : GOwn w0 w' a c K :=
  ⟨owns_below h.row hb, fun x hx => ⟨owns_below (h.fr x hx).1 hb, (h.fr x hx).2⟩, h.off, h.two, h.bel.trans (hb.mono h.bel.size)⟩
theorem GOwn.nil (w : World) : GOwn w w none 0 [] := ⟨World.ownsRow_nil _ _ _ _, fun x hx => by simp at hx, fun x hx => by simp at hx, List.Pairwise.nil, Below.refl _ _⟩
theorem owns_to0 {w : World} {base base' : Nat} {e : TypeId} {size : Nat} {v : Value} {n : Nat} {xs : List Value} (h : w.ownsRow base e size v n xs) (hb : base' ≤ base) : w.ownsRow base' e size v n xs :=
  ⟨h.1, h.2.imp id (fun ⟨g, cap, cur, hv, hge, r⟩ => ⟨g, cap, cur, hv, Nat.le_trans hb hge, r⟩)⟩
theorem GOwn.grow {w0 w wf w6 : World} {a : Option Addr} {c g cap : Nat} {K : List GM} {x : GM} {o : Obj} (h : GOwn w0 w a c K) (hb : Below w.heap.size w wf)
    (hfo : wf.ownsRow w.heap.size 5 1 (.slice x.fa x.fn x.fc) x.fn (bytesV x.bs)) (hbs : ∀ b ∈ x.bs, b < 256)
    (own : w6.ownsRow w0.heap.size 42 5 (.slice (some ⟨g, 0, none⟩) (K.length + 1) cap) (K.length + 1) (gmV K ++ gmC x))
    (hg : (wf.alloc o).grownBy w6 (Value.slice a K.length c).ownBlock) (hat : (Value.slice a K.length c).ownBlock = some g ∨ g = (wf.alloc o).heap.size) : GOwn w0 w6 (some ⟨g, 0, none⟩) cap (K ++ [x]) := by
  have hz := hb.size
  have hza : (wf.alloc o).heap.size = wf.heap.size + 1 := by simp
  have hl : (K ++ [x]).length = K.length + 1 := by simp
  have flt : ∀ q, x.fa = some ⟨q, 0, none⟩ → w.heap.size ≤ q ∧ q < wf.heap.size := fun q e => hfo.lt q (by rw [e]; rfl)
  have klt : ∀ y ∈ K, ∀ q, y.fa = some ⟨q, 0, none⟩ → q < w.heap.size := fun y hy q e => ((h.fr y hy).1.lt q (by rw [e]; rfl)).2
  have alt : ∀ q, a = some ⟨q, 0, none⟩ → q < w.heap.size := fun q e => (h.row.lt q (by rw [e]; rfl)).2
  have old : ∀ k, k < w.heap.size → (∀ q, a = some ⟨q, 0, none⟩ → k ≠ q) → w6.heap[k]? = w.heap[k]? := fun k hk hn =>
    ((hg.block k (by omega) (fun e => hn k (ownb h.row e) rfl)).trans (Below.heap_alloc _ _ _ (by omega))).trans (hb.block k hk)
  have gne : ∀ y ∈ K ++ [x], ∀ q, y.fa = some ⟨q, 0, none⟩ → q ≠ g := fun y hy q e e2 => by
    subst e2
    rcases List.mem_append.1 hy with hy | hy
    · rcases hat with t | t
      · exact h.off y hy q e (ownb h.row t.symm)
      · have := klt y hy q e; omega
    · simp at hy; subst hy
      rcases hat with t | t
      · have := alt q (ownb h.row t.symm); have := flt q e; omega
      · have := flt q e; omega
  refine ⟨by rw [hl, gmV_app]; exact own, fun y hy => ?_, fun y hy q e e2 => ?_, ?_, ?_⟩
  · rcases List.mem_append.1 hy with hy | hy
    · exact ⟨owns_block0 (h.fr y hy).1 (fun q e => old q (klt y hy q e) (fun r hr e2 => h.off y hy q e (by rw [hr, e2]))), (h.fr y hy).2⟩
    · simp at hy; subst hy
      refine ⟨owns_to0 (owns_block0 hfo (fun q e => ?_)) h.bel.size, hbs⟩
      have hf := flt q e
      exact (hg.block q (by omega) (fun e2 => by have := alt q (ownb h.row e2); omega)).trans (Below.heap_alloc _ _ _ (by omega))
  · injection e2 with e2; injection e2 with e2
    exact gne y hy q e e2.symm
  · rw [List.pairwise_append]
    refine ⟨h.two, by simp, fun y hy z hz q e e2 => ?_⟩
    simp at hz; subst hz
    have := klt y hy q e; have := flt q e2; omega
  · have ba : Below w0.heap.size w0 (wf.alloc o) := h.bel.trans ((hb.mono h.bel.size).trans ((below_one wf o).mono (by have := h.bel.size; omega)))
    exact ba.grown hg (by have := h.bel.size; omega) (fun k hk => by have := h.row.lt k hk; exact this.1)
theorem GOwn.holds {w0 w : World} {a : Option Addr} {c : Nat} {K : List GM} (h : GOwn w0 w a c K) : HoldsG w a K.length K := by
  refine ⟨rfl, fun h0 => ?_, fun i hi => ?_⟩
  · obtain ⟨g, cap', hv⟩ := Joins.ownsRow_form h.row (by omega)
    simp only [Value.slice.injEq] at hv
    obtain ⟨rfl, -, -⟩ := hv
    refine ⟨g, 0, rfl, fun i hi => ?_⟩
    obtain ⟨v0, v1, v2, v3, v4⟩ := gmV_at K i hi
    simp only [Nat.zero_add]
    exact ⟨(h.row.cellAt (i * 5) (by omega)).trans v0, (h.row.cellAt (i * 5 + 1) (by omega)).trans v1, (h.row.cellAt (i * 5 + 2) (by omega)).trans v2, (h.row.cellAt (i * 5 + 3) (by omega)).trans v3, (h.row.cellAt (i * 5 + 4) (by omega)).trans v4⟩
  · have := h.fr (K.getD i gm0) (by rw [List.getD_eq_getElem?_getD, List.getElem?_eq_getElem hi]; simp)
    exact holdsB_of_values (owns_holds this.1) this.2
end Go.Proofs.Ytecdigcadmokfaa
/- net: the document's Double -/
namespace Go.Proofs.Ytecdigcadmokfaa
open Go.RowKit
set_option linter.unusedVariables false
set_option maxRecDepth 20000
theorem rIs_quiet {most nx : Int} {G : List GM} {S : Nat → Prop} (i : Int) (z : Bool) (b : Nat) (w : World) (h : RNAt w b most nx G S) (hz : decide (0 ≤ i ∧ i < (G.length : Int)) = z) (k : Nat) :
    Calls Try.prog 35 #[.pointer (some ⟨b, 0, none⟩), .int .i64 i] (w.drewN k) fun e w' => e = .returned (.bool z) ∧ w' = w.drewN k :=
  (rIs_any i z b _ (h.below (below_drewN w k)) hz).mono fun e w' h => ⟨h.1, h.2.symm⟩
theorem rDouble_out (i : Int) (b : Nat) {most nx : Int} {G : List GM} {S : Nat → Prop} (w : World) (h : RNAt w b most nx G S) (hi : ¬ (0 ≤ i ∧ i < (G.length : Int))) : Calls Try.prog 22 #[.pointer (some ⟨b, 0, none⟩), .int .i64 i] w fun e w' => e = .returned (.bool false) ∧ Below w.heap.size w w' := by
  have CH := Lib.hid (rIs_quiet i false b w h (decide_eq_false hi))
  clear h hi
  go_enter Try.func22, Try.ntmps22
  go_upto_region 1 with fail
  go_quiet ((go_at_call 35; exact Calls.quiet_of_same (CH.out _)))
  go_wp2_with fail
  go_ret
  exact ⟨rfl, below_drewN _ _⟩
theorem rDouble_full (i : Int) (b : Nat) {most nx : Int} {G : List GM} {S : Nat → Prop} (w : World) (h : RNAt w b most nx G S) (hi : 0 ≤ i ∧ i < (G.length : Int)) (hf : most ≤ (G.length : Int)) : Calls Try.prog 22 #[.pointer (some ⟨b, 0, none⟩), .int .i64 i] w fun e w' => e = .returned (.bool false) ∧ Below w.heap.size w w' := by
  have CH := Lib.hid (rIs_quiet i true b w h (decide_eq_true hi))
  have d1 : decide ((G.length : Int) ≥ most) = true := decide_eq_true hf
  obtain ⟨a, c, k1, k2, -⟩ := h
  clear hi hf
  go_enter Try.func22, Try.ntmps22
  go_upto_region 1 with fail
  go_quiet ((go_at_call 35; exact Calls.quiet_of_same (CH.out _)))
  go_wp2_with fail
  go_ret
  exact ⟨rfl, below_drewN _ _⟩
def RDoubleP (w : World) (b : Nat) (most nx : Int) (G : List GM) (S : Nat → Prop) (x : GM) (e : Ending) (w' : World) : Prop :=
  e = .returned (.bool true) ∧ ∃ S', RNAt w' b most nx (G ++ [x]) S' ∧ (∀ k, S' k → S k ∨ w.heap.size ≤ k) ∧ Turn S w w'
set_option maxHeartbeats 6400000 in
set_option maxRecDepth 100000 in
theorem rDouble_in (i : Nat) (x : GM) (b : Nat) {most nx : Int} {G : List GM} {S : Nat → Prop} (w : World) (h : RNAt w b most nx G S) (hi : i < G.length) (hx : G.getD i gm0 = x) (hf : (G.length : Int) < most) (hm : most ≤ 64) :
    Calls Try.prog 22 #[.pointer (some ⟨b, 0, none⟩), .int .i64 i] w (RDoubleP w b most nx G S x) := by
  obtain ⟨i0, hi0, hz0, hz1, hz2⟩ := info_parts gm_info
  have CH := Lib.hid (rIs_quiet i true b w h (decide_eq_true ⟨by omega, by omega⟩))
  have d1 : decide ((G.length : Int) ≥ most) = false := decide_eq_false (by omega)
  have HX := Lib.hid (show x ∈ G from by rw [← hx, List.getD_eq_getElem?_getD, List.getElem?_eq_getElem hi]; simp)
  have HXX := Lib.hid hx
  have H := Lib.hid h
  have hl : G.length < 64 := by omega
  have LT0 := Lib.hid h.lt
  obtain ⟨a, c, k1, k2, -⟩ := h
  clear hx hf hm
  go_enter Try.func22, Try.ntmps22
  go_upto_region 1 with fail
  go_quiet ((go_at_call 35; exact Calls.quiet_of_same (CH.out _)))
  go_upto_region 3 with fail
  have N2 := Lib.hid (H.out.below (below_drewN w nq))
  have B2 := Lib.hid (below_drewN w nq)
  clear k1 k2 CH
  generalize w.drewN nq = w2 at *
  obtain ⟨a, c, k0, -, -, fz, own, fr6, hSb, -, hSl⟩ := N2.out
  obtain ⟨n, hn⟩ : ∃ n, G.length = n := ⟨_, rfl⟩
  have HN := Lib.hid hn
  rw [hn] at k0 own hl hi
  obtain ⟨g, rfl⟩ : ∃ g, a = some ⟨g, 0, none⟩ := by
    obtain ⟨g, cap', hv⟩ := Joins.ownsRow_form own (by omega)
    simp only [Value.slice.injEq] at hv
    exact ⟨g, hv.1⟩
  have K0 := Lib.hid k0
  have F0 := Lib.hid (fz 0)
  have OW := Lib.hid own
  have LB2 := Lib.hid (hSl b hSb)
  have LG := Lib.hid (own.lt g rfl).2
  have GL := Lib.hid (show (gmV G).length = n * 5 from by rw [gmV_len, HN.out])
  have NW := Lib.hid (show ∀ w', Below w2.heap.size w2 w' → ∀ j u, (gmV G)[j]? = some u → w'.cell? ((⟨g, 0, none⟩ : Addr).add j) = some u from fun w' hb j u hu => (rowCells (owns_below OW.out hb)).2 _ rfl j u hu)
  obtain ⟨v0, v1, v2, v3, v4⟩ := gmV_at G i (by omega)
  rw [HXX.out] at v0 v1 v2 v3 v4
  have ROW := Lib.hid (show ∀ w', Below w2.heap.size w2 w' → w'.cell? ⟨b, 0, none⟩ = some (.slice (some ⟨g, 0, none⟩) n c) ∧ w'.frozen? ⟨b, 0, none⟩ = false ∧ w'.cell? ⟨g, i * 5, none⟩ = some (.int .i64 x.id) ∧ w'.cell? ⟨g, i * 5 + 1, none⟩ = some (.int .i64 x.frm) ∧ w'.cell? ⟨g, i * 5 + 2, none⟩ = some (.int .i64 x.dst) ∧ w'.cell? ⟨g, i * 5 + 3, none⟩ = some (.slice x.fa x.fn x.fc) ∧ w'.cell? ⟨g, i * 5 + 4, none⟩ = some (.bool x.sp) from fun w' hb => by
    have o := owns_below OW.out hb
    exact ⟨(hb.cell (p := ⟨b, 0, none⟩) LB2.out).trans K0.out, (hb.frozen (p := ⟨b, 0, none⟩) LB2.out).trans F0.out, (o.cellAt (i * 5) (by omega)).trans v0, (o.cellAt (i * 5 + 1) (by omega)).trans v1, (o.cellAt (i * 5 + 2) (by omega)).trans v2, (o.cellAt (i * 5 + 3) (by omega)).trans v3, (o.cellAt (i * 5 + 4) (by omega)).trans v4⟩)
  have E9 := Lib.hid (show gmV G ++ [.int .i64 x.id, .int .i64 x.frm, .int .i64 x.dst, .slice x.fa x.fn x.fc, .bool x.sp] = gmV (G ++ [x]) from by rw [gmV_app]; rfl)
  have BD := Lib.hid (show Below w2.heap.size w2 w2.drew from (Below.refl _ _).drew)
  have BA := Lib.hid (show Below w2.heap.size w2 ((w2.alloc (.cells #[.int .i64 x.id, .int .i64 x.frm, .int .i64 x.dst, .slice x.fa x.fn x.fc, .bool x.sp] 42)).drew) from (below_one w2 _).drew)
  have SA := Lib.hid (show ((w2.alloc (.cells #[.int .i64 x.id, .int .i64 x.frm, .int .i64 x.dst, .slice x.fa x.fn x.fc, .bool x.sp] 42)).drew).heap.size = w2.heap.size + 1 from by simp)
  obtain ⟨-, -, x0, x1, x2, x3, x4⟩ := ROW.out _ BD.out
  have k3 := (ROW.out _ BD.out).1
  have k4 := (ROW.out _ BA.out).1
  have i1 : (0 : Int) ≤ (i : Int) := by omega
  have i2 : (i : Int) < (n : Int) := by omega
  clear k0 fz own fr6 hSb hSl v0 v1 v2 v3 v4
  go_region_law
    (first
      | (refine step_append_some (by rfl) (.const (.slice none 0 0)) (.tmp 25) 46 (by rfl) w2.heap.size 42 i0 _ 5 56 Try.underlying46 hi0 hz0 hz1 hz2 rfl (by decide) _ 0 [] (by rfl) (World.ownsRow_nil _ _ _ _) ⟨g, 0, none⟩ n c (gmV G) (by first | (simp [Act.eval]; done) | simp [Act.eval, Act.put]) GL.out (NW.out _ BD.out) (gmV_one _) (by unfold maxLen; omega) (by omega) (Nat.le_refl _) n (gmV G) (Nat.zero_add _) (List.nil_append _) ?_; intro a3 c3 w3 hown3 hb3 hnil3; have hb3x : Below w2.heap.size w2 w3 := BD.out.trans hb3; have ⟨ka, fa, e0, e1, e2, e3, e4⟩ := ROW.out _ hb3x)
      | (refine step_append_some (by rfl) (.const (.slice none 0 0)) (.tmp 25) 46 (by rfl) (w2.heap.size + 1) 42 i0 _ 5 56 Try.underlying46 hi0 hz0 hz1 hz2 rfl (by decide) _ 0 [] (by rfl) (World.ownsRow_nil _ _ _ _) ⟨g, 0, none⟩ n c (gmV G) (by first | (simp [Act.eval]; done) | simp [Act.eval, Act.put]) GL.out (NW.out _ BA.out) (gmV_one _) (by unfold maxLen; omega) (by omega) (Nat.le_of_eq SA.out.symm) n (gmV G) (Nat.zero_add _) (List.nil_append _) ?_; intro a3 c3 w3 hown3 hb3 hnil3; have hb3x : Below w2.heap.size w2 w3 := BA.out.trans (hb3.mono (by omega)); have ⟨ka, fa, e0, e1, e2, e3, e4⟩ := ROW.out _ hb3x)
      | (refine step_append_some (by rfl) (.tmp 26) (.tmp 34) 46 (by rfl) w2.heap.size 42 i0 _ 5 56 Try.underlying46 hi0 hz0 hz1 hz2 rfl (by decide) _ n (gmV G) (by first | (simp [Act.eval]; done) | simp [Act.eval, Act.put]) (hown3.alloc _) ⟨w3.heap.size, 0, none⟩ 1 1 [.int .i64 x.id, .int .i64 x.frm, .int .i64 x.dst, .slice x.fa x.fn x.fc, .bool x.sp] (by first | (simp [Act.eval]; done) | simp [Act.eval, Act.put]) (by rfl) (World.news_of_block (cs := #[.int .i64 x.id, .int .i64 x.frm, .int .i64 x.dst, .slice x.fa x.fn x.fc, .bool x.sp]) (t := 42) (fr := (0, 0)) (heap_alloc_new w3 _)) (by simp [Value.oneCell']) (by unfold maxLen; omega) (by omega) (by have := hb3x.size; simp; omega) (n + 1) (gmV (G ++ [x])) rfl E9.out ?_; intro a6 c6 w6 hown6 hb6 hnil6; have hb6x : Below w2.heap.size w2 w6 := (hb3x.trans ((below_one w3 _).mono hb3x.size)).trans hb6; have ⟨kz, fz, _⟩ := ROW.out _ hb6x; have own6 := owns_to0 (base' := w2.heap.size) hown6 (by omega))
      | (refine step_append_some (by rfl) (.tmp 26) (.tmp 34) 46 (by rfl) (w2.heap.size + 1) 42 i0 _ 5 56 Try.underlying46 hi0 hz0 hz1 hz2 rfl (by decide) _ n (gmV G) (by first | (simp [Act.eval]; done) | simp [Act.eval, Act.put]) hown3 ⟨w2.heap.size, 0, none⟩ 1 1 [.int .i64 x.id, .int .i64 x.frm, .int .i64 x.dst, .slice x.fa x.fn x.fc, .bool x.sp] (by first | (simp [Act.eval]; done) | simp [Act.eval, Act.put]) (by rfl) (World.news_of_block (cs := #[.int .i64 x.id, .int .i64 x.frm, .int .i64 x.dst, .slice x.fa x.fn x.fc, .bool x.sp]) (t := 42) (fr := (0, 0)) ((hb3.block w2.heap.size (by omega)).trans (heap_alloc_new w2 _))) (by simp [Value.oneCell']) (by unfold maxLen; omega) (by omega) (by have := hb3.size; have := SA.out; omega) (n + 1) (gmV (G ++ [x])) rfl E9.out ?_; intro a6 c6 w6 hown6 hb6 hnil6; have hb6x : Below w2.heap.size w2 w6 := hb3x.trans (hb6.mono (by omega)); have ⟨kz, fz, _⟩ := ROW.out _ hb6x; have own6 := owns_to0 (base' := w2.heap.size) hown6 (by omega)))
  all_goals
    have RN := Lib.hid (N2.out.renew_sub (r := n + 1) hb6x (by rw [List.length_append, HN.out]; rfl) own6 (fun y hy => by
      rcases List.mem_append.1 hy with h | h
      · exact h
      · simp at h; subst h; exact HX.out))
    clear hown3 hb3 hnil3 hown6 hb6 hnil6 kz fz own6
    go_wp2_with fail
    go_ret
    obtain ⟨⟨S', R1, R2⟩, R3⟩ := RN.out
    exact ⟨rfl, S', R1, fun k hk => (R2 k hk).imp id (fun x => Nat.le_trans B2.out.size x), (Turn.of_below B2.out).trans R3⟩
end Go.Proofs.Ytecdigcadmokfaa
/- net: the document's Spoil -/
namespace Go.Proofs.Ytecdigcadmokfaa
open Go.RowKit
set_option linter.unusedVariables false
set_option maxRecDepth 20000
theorem rSpoil_out (i at_ x : Int) (b : Nat) {most nx : Int} {G : List GM} {S : Nat → Prop} (w : World) (h : RNAt w b most nx G S) (hi : ¬ (0 ≤ i ∧ i < (G.length : Int))) : Calls Try.prog 24 #[.pointer (some ⟨b, 0, none⟩), .int .i64 i, .int .i64 at_, .int .i64 x] w fun e w' => e = .returned (.bool false) ∧ Below w.heap.size w w' := by
  have CH := Lib.hid (rIs_any i false b w h (decide_eq_false hi))
  clear h hi
  go_enter Try.func24, Try.ntmps24
  go_wp2_with fail
  refine CH.out.mono ?_
  rintro e w' ⟨rfl, rfl⟩
  go_wp2_with fail
  go_ret
  exact ⟨rfl, Below.refl _ _⟩
set_option maxHeartbeats 3200000 in
set_option maxRecDepth 100000 in
theorem rSpoil_no (i : Nat) (at_ xx : Int) (x : GM) (b : Nat) {most nx : Int} {G : List GM} {S : Nat → Prop} (w : World) (h : RNAt w b most nx G S) (hi : i < G.length) (hx : G.getD i gm0 = x) (hno : x.sp = true ∨ x.fn = 0) : Calls Try.prog 24 #[.pointer (some ⟨b, 0, none⟩), .int .i64 i, .int .i64 at_, .int .i64 xx] w fun e w' => e = .returned (.bool false) ∧ Below w.heap.size w w' := by
  have CH := Lib.hid (rIs_any i true b w h (decide_eq_true ⟨by omega, by omega⟩))
  obtain ⟨a, c, k0, -, -, -, own, -⟩ := h
  obtain ⟨g, rfl⟩ : ∃ g, a = some ⟨g, 0, none⟩ := by
    obtain ⟨g, cap', hv⟩ := Joins.ownsRow_form own (by omega)
    simp only [Value.slice.injEq] at hv
    exact ⟨g, hv.1⟩
  obtain ⟨v0, v1, v2, v3, v4⟩ := gmV_at G i hi
  rw [hx] at v0 v1 v2 v3 v4
  have x3 := (own.cellAt (i * 5 + 3) (by omega)).trans v3
  have x4 := (own.cellAt (i * 5 + 4) (by omega)).trans v4
  have i1 : (0 : Int) ≤ (i : Int) := by omega
  have i2 : (i : Int) < (G.length : Int) := by omega
  obtain ⟨id, frm, dst, fa, fn, fc, sp, bs⟩ := x
  simp only at x3 x4 hno
  clear hx own v0 v1 v2 v3 v4
  by_cases h0 : fn = 0
  · subst h0
    clear hno
    go_enter Try.func24, Try.ntmps24
    go_wp2_with fail
    refine CH.out.mono ?_
    rintro e w' ⟨rfl, rfl⟩
    go_wp2_with fail
    go_ret
    exact ⟨rfl, Below.refl _ _⟩
  · obtain rfl : sp = true := by simpa [h0] using hno
    have z0 : ((fn : Int) == 0) = false := by simp; omega
    clear hno
    go_enter Try.func24, Try.ntmps24
    go_wp2_with fail
    refine CH.out.mono ?_
    rintro e w' ⟨rfl, rfl⟩
    go_wp2_with fail
    go_ret
    exact ⟨rfl, Below.refl _ _⟩
def RSpoilP (w : World) (b : Nat) (most nx : Int) (G : List GM) (S : Nat → Prop) (i : Nat) (x : GM) (at_ xx : Int) (e : Ending) (w' : World) : Prop :=
  e = .returned (.bool true) ∧ ∃ fa fc S', RNAt w' b most nx (G.set i ⟨x.id, x.frm, x.dst, fa, (Dm.turned x.bs at_ xx).length, fc, true, Dm.turned x.bs at_ xx⟩) S' ∧ (∀ k, S' k → S k ∨ w.heap.size ≤ k) ∧ Turn S w w'
set_option maxHeartbeats 6400000 in
set_option maxRecDepth 100000 in
theorem rSpoil_in (i : Nat) (at_ xx : Int) (x : GM) (b : Nat) {most nx : Int} {G : List GM} {S : Nat → Prop} (w : World) (h : RNAt w b most nx G S) (hi : i < G.length) (hx : G.getD i gm0 = x) (hsp : x.sp = false) (hn0 : 0 < x.fn) (hn : x.fn ≤ 1000000) (hl : G.length ≤ 64) :
    Calls Try.prog 24 #[.pointer (some ⟨b, 0, none⟩), .int .i64 i, .int .i64 at_, .int .i64 xx] w (RSpoilP w b most nx G S i x at_ xx) := by
  obtain ⟨i0, hi0, hz0, hz1, hz2⟩ := info_parts gm_info
  have CH := Lib.hid (rIs_any i true b w h (decide_eq_true ⟨by omega, by omega⟩))
  have HXX := Lib.hid hx
  have HX := Lib.hid (show x ∈ G from by rw [← hx, List.getD_eq_getElem?_getD, List.getElem?_eq_getElem hi]; simp)
  have H := Lib.hid h
  have LT0 := Lib.hid h.lt
  obtain ⟨a, c, k0, -, -, fz, own, -, hSb, -, hSl⟩ := h
  obtain ⟨n, hnn⟩ : ∃ n, G.length = n := ⟨_, rfl⟩
  have HN := Lib.hid hnn
  rw [hnn] at k0 own hi hl
  obtain ⟨g, rfl⟩ : ∃ g, a = some ⟨g, 0, none⟩ := by
    obtain ⟨g, cap', hv⟩ := Joins.ownsRow_form own (by omega)
    simp only [Value.slice.injEq] at hv
    exact ⟨g, hv.1⟩
  obtain ⟨v0, v1, v2, v3, v4⟩ := gmV_at G i (by omega)
  rw [hx] at v0 v1 v2 v3 v4
  rw [hsp] at v4
  have V3 := Lib.hid v3; have V4 := Lib.hid v4
  have x3 := (own.cellAt (i * 5 + 3) (by omega)).trans v3
  have x4 := (own.cellAt (i * 5 + 4) (by omega)).trans v4
  have OW := Lib.hid own
  have K0 := Lib.hid k0; have F0 := Lib.hid (fz 0)
  have LB := Lib.hid (hSl b hSb)
  have GL := Lib.hid (show (gmV G).length = n * 5 from by rw [gmV_len, HN.out])
  have RC := Lib.hid (rowCells own)
  have i1 : (0 : Int) ≤ (i : Int) := by omega
  have i2 : (i : Int) < (n : Int) := by omega
  have z0 : ((x.fn : Int) == 0) = false := by simp; omega
  have HN0 := Lib.hid hn0
  clear hx hsp hnn fz own hSb hSl v0 v1 v2 v3 v4 hn0
  go_enter Try.func24, Try.ntmps24
  go_wp2_with fail
  refine CH.out.mono ?_
  rintro e w' ⟨rfl, rfl⟩
  clear CH
  go_upto_region 4 with (at_builtin; refine wpList_append_any rfl (.const (.slice none 0 0)) (.tmp 39) 46 rfl w.heap.size 42 i0 _ 5 56 Try.underlying46 hi0 hz0 hz1 hz2 rfl (by decide) _ 0 [] rfl (World.ownsRow_nil _ _ _ _) (some ⟨g, 0, none⟩) n c (gmV G) rfl RC.out.1 GL.out RC.out.2 (gmV_one _) (by unfold maxLen; omega) (by omega) (Nat.le_refl _) ?_; intro a3 c3 w3 hown3 hb3 hnil3)
  rw [Nat.zero_add, List.nil_append] at hown3
  obtain ⟨g3, rfl⟩ : ∃ g, a3 = some ⟨g, 0, none⟩ := by
    obtain ⟨g, cap', hv⟩ := Joins.ownsRow_form hown3 (by omega)
    simp only [Value.slice.injEq] at hv
    exact ⟨g, hv.1⟩
  have O3 := Lib.hid hown3
  have B3 := Lib.hid hb3
  have y3 := (hown3.cellAt (i * 5 + 3) (by omega)).trans V3.out
  have FX := H.out.frame HX.out
  have CT := Lib.hid (rturned_any x.fa x.fn x.fc x.bs at_ xx w3 (FX.1.below hb3) FX.2.1 HN0.out hn)
  have LG3 := Lib.hid (hown3.lt g3 rfl)
  clear x3 x4 k0 hown3 hb3 hnil3 FX
  go_wp2_with fail
  refine CT.out.mono ?_
  rintro e w4 ⟨fa, fc, rfl, hof, hbf, hnf⟩
  have OF := Lib.hid hof; have BF := Lib.hid hbf; have NF := Lib.hid hnf
  have O4 := Lib.hid (owns_below O3.out hbf)
  have u3 := (O4.out.cellAt (i * 5 + 3) (by omega)).trans V3.out
  have f3 := O4.out.frozenAt (i * 5 + 3)
  clear y3 hof hbf hnf CT
  go_upto_region 5 with fail
  have O5 := Lib.hid (O4.out.stored (i * 5 + 3) (.slice fa (Dm.turned x.bs at_ xx).length fc)).1
  have u4 := (cset_ne (w := w4) (b := g3) (o := i * 5 + 3) (p := i * 5 + 4) (v := .slice fa (Dm.turned x.bs at_ xx).length fc) (by omega)).trans ((O4.out.cellAt (i * 5 + 4) (by omega)).trans V4.out)
  have f4 := O5.out.frozenAt (i * 5 + 4)
  clear u3 f3
  go_upto_region 6 with fail
  have O6 := Lib.hid (O5.out.stored (i * 5 + 4) (.bool true)).1
  have hset := gmV_set2 G i fa (Dm.turned x.bs at_ xx).length fc (Dm.turned x.bs at_ xx) (by rw [HN.out]; exact hi)
  rw [HXX.out] at hset
  rw [hset] at O6
  have B6 := Lib.hid (show Below w.heap.size w ((w4.setCell ⟨g3, i * 5 + 3, none⟩ (.slice fa (Dm.turned x.bs at_ xx).length fc)).setCell ⟨g3, i * 5 + 4, none⟩ (.bool true)) from ((B3.out.trans (BF.out.mono B3.out.size)).setCell (p := ⟨g3, i * 5 + 3, none⟩) LG3.out.1 _).setCell (p := ⟨g3, i * 5 + 4, none⟩) LG3.out.1 _)
  have ky := (B6.out.cell (p := ⟨b, 0, none⟩) LB.out).trans K0.out
  have fy := (B6.out.frozen (p := ⟨b, 0, none⟩) LB.out).trans F0.out
  have lf := Lib.hid (show ∀ fb fo, fa = some ⟨fb, fo, none⟩ → w3.heap.size ≤ fb ∧ fb < w4.heap.size from fun fb fo e => by
    have hownf := OF.out
    rcases Joins.ownsRow_forms hownf with ⟨e1, _⟩ | ⟨g, cap, e1⟩
    · injection e1 with e2; rw [e] at e2; cases e2
    · injection e1 with e2; rw [e] at e2; injection e2 with e2; injection e2 with e2 e3; subst e2; subst e3; rw [e] at hownf; exact hownf.lt _ rfl)
  have RN := Lib.hid (H.out.renew (G' := G.set i ⟨x.id, x.frm, x.dst, fa, (Dm.turned x.bs at_ xx).length, fc, true, Dm.turned x.bs at_ xx⟩) (a := some ⟨g3, 0, none⟩) (c := c3) B6.out (by rw [List.length_set, HN.out]; exact O6.out) (fun y hy => by
    rcases List.mem_or_eq_of_mem_set hy with hy | rfl
    · obtain ⟨q1, q2, q3⟩ := H.out.frame hy
      exact ⟨q1.below B6.out, q2, fun fb fo e => Or.inl (q3 fb fo e)⟩
    · refine ⟨holdsB_blocks (holdsB_of_values (owns_holds OF.out) (Dm.turned_bd (H.out.frame HX.out).1.2)) (fun fb fo e => ?_), fun e => NF.out e, fun fb fo e => Or.inr ⟨Nat.le_trans B3.out.size (lf.out fb fo e).1, by simpa [World.setCell] using (lf.out fb fo e).2⟩⟩
      have hne : fb ≠ g3 := by have := (lf.out fb fo e).1; have := LG3.out.2; omega
      rw [heap_set_far hne, heap_set_far hne]))
  rw [List.length_set, HN.out] at RN
  clear u4 f4 hset
  generalize (w4.setCell ⟨g3, i * 5 + 3, none⟩ (.slice fa (Dm.turned x.bs at_ xx).length fc)).setCell ⟨g3, i * 5 + 4, none⟩ (.bool true) = w6 at *
  go_wp2_with fail
  go_ret
  obtain ⟨⟨S', R1, R2⟩, R3⟩ := RN.out
  exact ⟨rfl, fa, fc, S', R1, R2, R3⟩
end Go.Proofs.Ytecdigcadmokfaa
/- what was answered is written over, and beyond (OverBytes): nothing but its own block is written -/
namespace Go.Proofs.Ytecdigcadmokfaa
open Go.RowKit
set_option linter.unusedVariables false
set_option maxRecDepth 20000
theorem ovgBytes_info : (Try.prog.info? 5).map (fun i => (i.zero, i.size, i.bytes)) = some (some (.int .u8 0), 1, 1) := by kernel_rfl
set_option maxHeartbeats 400000 in
/-- Written over is a slice of the call's own (its blocks lie from B on): below B nothing turns, and nothing but the slice's block. -/
theorem ovgBytes_any (B : Nat) (a : Option Addr) (n cap : Nat) (xs : List Value) (w : World) (h : w.ownsRow B 5 1 (.slice a n cap) n xs) (hB : B ≤ w.heap.size) (hn : n ≤ 1048576) :
    Calls Try.prog 16 #[.slice a n cap] w fun e w' => e = .returned (.tuple #[]) ∧ Below B w w' ∧ w.grownBy w' (Value.slice a n cap).ownBlock := by
  obtain ⟨i0, hi, hz0, hz1, hz2⟩ := info_parts ovgBytes_info
  have H := Lib.hid h
  clear h
  go_enter Try.func16, Try.ntmps16
  go_wp2_with fail
  go_loopw [2] (fun i wr => ∃ (k : Nat) (ys : List Value), k ≤ n ∧ i = .int .i64 k ∧ Hid (wr.ownsRow B 5 1 (.slice a n cap) n ys) ∧ Hid (Below B w wr) ∧ Hid (w.grownBy wr (Value.slice a n cap).ownBlock)) (fun i _ => n - (intOf i).toNat)
  case atStart => exact ⟨0, xs, by omega, rfl, H, Below.refl _ _, Lib.hid ⟨rfl, rfl, rfl, Nat.le_refl _, fun _ _ _ => rfl⟩⟩
  case round =>
    obtain ⟨k, ys, hk, rfl, hO, hBw, hGr⟩ := hrel
    by_cases hlt : k < n
    · obtain ⟨g, rfl⟩ : ∃ g, a = some ⟨g, 0, none⟩ := by
        obtain ⟨g, cap', hv⟩ := Joins.ownsRow_form hO.out (by omega)
        simp only [Value.slice.injEq] at hv
        exact ⟨g, hv.1⟩
      have hc := hO.out.cellAt k (by omega)
      have hyl : k < ys.length := by have := hO.out.1; omega
      rw [List.getElem?_eq_getElem hyl] at hc
      obtain ⟨y, hy⟩ : ∃ y, ys[k] = y := ⟨_, rfl⟩
      rw [hy] at hc
      clear hy hyl
      have hf := hO.out.frozenAt k
      have HG2 := Lib.hid (fun v => (⟨hGr.out.os, hGr.out.tape, hGr.out.output, by have := hGr.out.size; simpa using this, fun b hb hne => (Below.heap_setCell wr ⟨g, k, none⟩ v b (fun e => hne (by show some b = some g; rw [e]))).trans (hGr.out.block b hb hne)⟩ : w.grownBy (wr.setCell ⟨g, k, none⟩ v) (Value.slice (some ⟨g, 0, none⟩) n cap).ownBlock))
      go_wp2
      go_roundw
      case rel => exact ⟨k + 1, _, by omega, by go_num, Lib.hid (hO.out.stored k _).1, Lib.hid (hBw.out.setCell (p := ⟨g, k, none⟩) (hO.out.lt g rfl).1 _), Lib.hid (HG2.out _)⟩
      case measure => simp [intOf]; omega
    · have hs := hBw.out.size
      go_wp2_with (at_builtin; refine wpList_append_own _ rfl (.tmp 12) (.tmp 13) 33 rfl B 5 i0 (.int .u8 0) 1 1 Try.underlying33 hi hz0 hz1 hz2 rfl (by decide) _ n _ rfl (hO.out.alloc _) _ 1 1 _ rfl rfl (one_new _ _ _ _ _ rfl) (one_int _ _) (by unfold maxLen; omega) (by omega) (by simp; omega) ?_; intro v3 w3 hown3 hg3 hnil3)
      go_end0
      have hsz := hGr.out.size
      refine ⟨rfl, hBw.out.trans (((Below.refl _ _).alloc (by omega) _).grown hg3 (by simp; omega) fun k hk => (hO.out.lt k hk).1), ⟨hg3.os.trans hGr.out.os, hg3.tape.trans hGr.out.tape, hg3.output.trans hGr.out.output, ?_, fun b hb hne => ?_⟩⟩
      · have := hg3.size; simp at this; omega
      · rw [hg3.block b (by simp; omega) hne, Below.heap_alloc _ _ _ (by omega)]
        exact hGr.out.block b hb hne
end Go.Proofs.Ytecdigcadmokfaa
/- net: OverGrams -/
namespace Go.Proofs.Ytecdigcadmokfaa
open Go.RowKit
set_option linter.unusedVariables false
set_option maxRecDepth 20000
def gmZ : GM := ⟨-9, 0, 0, none, 0, 0, false, []⟩
theorem ow_gm : ∀ (L : List GM) (k : Nat) (x : GM), k < L.length → ow (gmV L) (k * 5) (gmC x) = gmV (L.set k x)
  | [], k, x, h => by simp at h
  | y :: l, 0, x, _ => by simp [ow, gmV, gmC]
  | y :: l, k + 1, x, h => by
    have ih := ow_gm l k x (by simpa using h)
    have e : gmV (y :: l) = gmC y ++ gmV l := rfl
    have e2 : gmV ((y :: l).set (k + 1) x) = gmC y ++ gmV (l.set k x) := rfl
    have n1 : (k + 1) * 5 = (gmC y).length + k * 5 := by simp [gmC]; omega
    have n2 : (k + 1) * 5 + (gmC x).length = (gmC y).length + (k * 5 + (gmC x).length) := by omega
    rw [e, e2, ← ih]
    unfold ow
    rw [n2, n1, List.take_length_add_append, List.drop_length_add_append]
    simp
theorem two_at {K : List GM} (h : K.Pairwise fun x y => ∀ g, x.fa = some ⟨g, 0, none⟩ → y.fa ≠ some ⟨g, 0, none⟩) {i j : Nat} (hij : i < j) (hj : j < K.length) (g : Nat) (e : (K.getD i gm0).fa = some ⟨g, 0, none⟩) : (K.getD j gm0).fa ≠ some ⟨g, 0, none⟩ := by
  rw [List.pairwise_iff_getElem] at h
  have := h i j (by omega) hj hij g
  rw [List.getD_eq_getElem?_getD, List.getElem?_eq_getElem (by omega)] at e
  rw [List.getD_eq_getElem?_getD, List.getElem?_eq_getElem hj]
  exact this e
theorem mem_at {K : List GM} {i : Nat} (h : i < K.length) : K.getD i gm0 ∈ K := by rw [List.getD_eq_getElem?_getD, List.getElem?_eq_getElem h]; simp
set_option maxHeartbeats 3200000 in
set_option maxRecDepth 100000 in
theorem overGrams_any {w0 : World} (a : Option Addr) (c : Nat) (K : List GM) (w : World) (h : GOwn w0 w a c K) (hl : K.length ≤ 64) (hfn : ∀ x ∈ K, x.fn ≤ 1000000) :
    Calls Try.prog 27 #[.slice a K.length c] w fun e w' => e = .returned (.tuple #[]) ∧ Below w0.heap.size w w' := by
  obtain ⟨n, hn⟩ : ∃ n, K.length = n := ⟨_, rfl⟩
  have HN := Lib.hid hn; have HFN := Lib.hid hfn; have H := Lib.hid h
  have hw0 := h.bel.size
  rw [hn] at hl
  rw [hn]
  clear h hfn hn
  go_enter Try.func27, Try.ntmps27
  go_wp2_with fail
  go_loopw [2] (fun iv wr => ∃ (k : Nat) (L : List GM), k ≤ n ∧ iv = .int .i64 k ∧ Hid (L.length = n ∧ ∀ i, k ≤ i → i < n → L.getD i gm0 = K.getD i gm0) ∧ Hid (wr.ownsRow w0.heap.size 42 5 (.slice a n c) n (gmV L)) ∧
    Hid (∀ i, k ≤ i → i < n → wr.ownsRow w0.heap.size 5 1 (.slice (K.getD i gm0).fa (K.getD i gm0).fn (K.getD i gm0).fc) (K.getD i gm0).fn (bytesV (K.getD i gm0).bs)) ∧ Hid (Below w0.heap.size w wr)) (fun iv _ => n - (intOf iv).toNat)
  case atStart => exact ⟨0, K, by omega, rfl, Lib.hid ⟨HN.out, fun i _ _ => rfl⟩, Lib.hid (by have := H.out.row; rwa [HN.out] at this), Lib.hid (fun i _ hi => (H.out.fr _ (mem_at (by rw [HN.out]; exact hi))).1), Lib.hid (Below.refl _ _)⟩
  case round =>
    obtain ⟨k, L, hk, rfl, hL, hR, hF, hB⟩ := hrel
    by_cases hlt : k < n
    · obtain ⟨g, rfl⟩ : ∃ g, a = some ⟨g, 0, none⟩ := by
        obtain ⟨g, cap', hv⟩ := Joins.ownsRow_form hR.out (by omega)
        simp only [Value.slice.injEq] at hv
        exact ⟨g, hv.1⟩
      obtain ⟨-, -, -, v3, -⟩ := gmV_at L k (by rw [hL.out.1]; exact hlt)
      rw [hL.out.2 k (Nat.le_refl _) hlt] at v3
      have hFk := hF.out k (Nat.le_refl _) hlt
      have hoff := H.out.off _ (mem_at (i := k) (by rw [HN.out]; exact hlt))
      have htwo := fun i (h1 : k < i) (h2 : i < n) => two_at H.out.two h1 (by rw [HN.out]; exact h2)
      have hfk := HFN.out _ (mem_at (i := k) (by rw [HN.out]; exact hlt))
      obtain ⟨x, hx⟩ : ∃ x, K.getD k gm0 = x := ⟨_, rfl⟩
      rw [hx] at v3 hFk hoff hfk
      simp only [hx] at htwo
      have x3 := (hR.out.cellAt (k * 5 + 3) (by omega)).trans v3
      have HOFF := Lib.hid hoff; have HTWO := Lib.hid htwo; have HFK := Lib.hid hFk
      have CO := Lib.hid (ovgBytes_any w0.heap.size x.fa x.fn x.fc _ wr hFk (by have := hB.out.size; omega) (by omega))
      have i1 : (0 : Int) ≤ (k : Int) := by omega
      have i2 : (k : Int) < (n : Int) := by omega
      clear v3 hFk hoff htwo hx hfk
      go_wp2_with fail
      refine CO.out.mono ?_
      rintro e w4 ⟨rfl, hb4, hg4⟩
      have B4 := Lib.hid (hB.out.trans hb4)
      have O4 := Lib.hid (owns_block0 (w' := w4) hR.out (fun q e => hg4.block q (hR.out.lt q (by rw [e]; rfl)).2 (fun e2 => HOFF.out q (ownb HFK.out e2) e)))
      have F4 := Lib.hid (show ∀ i, k + 1 ≤ i → i < n → w4.ownsRow w0.heap.size 5 1 (.slice (K.getD i gm0).fa (K.getD i gm0).fn (K.getD i gm0).fc) (K.getD i gm0).fn (bytesV (K.getD i gm0).bs) from fun i h1 h2 => by
        have := hF.out i (by omega) h2
        exact owns_block0 this (fun q e => hg4.block q (this.lt q (by rw [e]; rfl)).2 (fun e2 => HTWO.out i h1 h2 q (ownb HFK.out e2) e)))
      clear hb4 hg4 x3 CO hF hR
      obtain ⟨c0, c1, c2, c3, c4⟩ := gmV_at L k (by rw [hL.out.1]; exact hlt)
      have y0 := (O4.out.cellAt (k * 5) (by omega)).trans c0
      have y1 := (O4.out.cellAt (k * 5 + 1) (by omega)).trans c1
      have y2 := (O4.out.cellAt (k * 5 + 2) (by omega)).trans c2
      have y3 := (O4.out.cellAt (k * 5 + 3) (by omega)).trans c3
      have y4 := (O4.out.cellAt (k * 5 + 4) (by omega)).trans c4
      have f0 := O4.out.frozenAt (k * 5)
      have f1 := O4.out.frozenAt (k * 5 + 1)
      have f2 := O4.out.frozenAt (k * 5 + 2)
      have f3 := O4.out.frozenAt (k * 5 + 3)
      have f4 := O4.out.frozenAt (k * 5 + 4)
      have ST := owns_setCells (gmC gmZ) (k * 5) w4 (gmV L) O4.out (by show k * 5 + 5 ≤ n * 5; omega)
      rw [ow_gm L k gmZ (by rw [hL.out.1]; exact hlt)] at ST
      have O5 := Lib.hid (show (((((w4.setCell ⟨g, k * 5, none⟩ (.int .i64 (-9))).setCell ⟨g, k * 5 + 1, none⟩ (.int .i64 0)).setCell ⟨g, k * 5 + 2, none⟩ (.int .i64 0)).setCell ⟨g, k * 5 + 3, none⟩ (.slice none 0 0)).setCell ⟨g, k * 5 + 4, none⟩ (.bool false)).ownsRow w0.heap.size 42 5 (.slice (some ⟨g, 0, none⟩) n c) n (gmV (L.set k gmZ)) from ST.1)
      have hgl := (O4.out.lt g rfl).1
      have B5 := Lib.hid (show Below w0.heap.size w (((((w4.setCell ⟨g, k * 5, none⟩ (.int .i64 (-9))).setCell ⟨g, k * 5 + 1, none⟩ (.int .i64 0)).setCell ⟨g, k * 5 + 2, none⟩ (.int .i64 0)).setCell ⟨g, k * 5 + 3, none⟩ (.slice none 0 0)).setCell ⟨g, k * 5 + 4, none⟩ (.bool false)) from ((((B4.out.setCell (p := ⟨g, k * 5, none⟩) hgl _).setCell (p := ⟨g, k * 5 + 1, none⟩) hgl _).setCell (p := ⟨g, k * 5 + 2, none⟩) hgl _).setCell (p := ⟨g, k * 5 + 3, none⟩) hgl _).setCell (p := ⟨g, k * 5 + 4, none⟩) hgl _)
      have F5 := Lib.hid (show ∀ i, k + 1 ≤ i → i < n → (((((w4.setCell ⟨g, k * 5, none⟩ (.int .i64 (-9))).setCell ⟨g, k * 5 + 1, none⟩ (.int .i64 0)).setCell ⟨g, k * 5 + 2, none⟩ (.int .i64 0)).setCell ⟨g, k * 5 + 3, none⟩ (.slice none 0 0)).setCell ⟨g, k * 5 + 4, none⟩ (.bool false)).ownsRow w0.heap.size 5 1 (.slice (K.getD i gm0).fa (K.getD i gm0).fn (K.getD i gm0).fc) (K.getD i gm0).fn (bytesV (K.getD i gm0).bs) from fun i h1 h2 =>
        owns_block0 (F4.out i h1 h2) (fun q e => by
          have hq : q ≠ g := fun e2 => H.out.off _ (mem_at (i := i) (by rw [HN.out]; exact h2)) q e (by rw [e2])
          rw [heap_set_far hq, heap_set_far hq, heap_set_far hq, heap_set_far hq, heap_set_far hq]))
      have L5 := Lib.hid (show (L.set k gmZ).length = n ∧ ∀ i, k + 1 ≤ i → i < n → (L.set k gmZ).getD i gm0 = K.getD i gm0 from ⟨by rw [List.length_set, hL.out.1], fun i h1 h2 => by
        rw [List.getD_eq_getElem?_getD, List.getElem?_set, if_neg (by omega), ← List.getD_eq_getElem?_getD]
        exact hL.out.2 i (by omega) h2⟩)
      clear ST c0 c1 c2 c3 c4 hL
      go_wp2_with fail
      go_roundw
      case rel => exact ⟨k + 1, L.set k gmZ, by omega, by go_num, L5, O5, F5, B5⟩
      case measure => simp [intOf] <;> omega
    · obtain rfl : k = n := by omega
      go_wp2_with fail
      go_end0
      exact ⟨rfl, hB.out⟩
end Go.Proofs.Ytecdigcadmokfaa
/- net: List, its contract -/
namespace Go.Proofs.Ytecdigcadmokfaa
open Go.RowKit
set_option linter.unusedVariables false
set_option maxRecDepth 20000
def ListP (w : World) (G : List GM) (e : Ending) (w' : World) : Prop := ∃ a c K, e = .returned (.slice a K.length c) ∧ K.length = G.length ∧ (∀ i, i < G.length → Alike (K.getD i gm0) (G.getD i gm0)) ∧ GOwn w w' a c K
set_option maxHeartbeats 3200000 in
set_option maxRecDepth 100000 in
theorem nList_any (b : Nat) {most nx : Int} {G : List GM} {S : Nat → Prop} (w : World) (h : NAt w b most nx G S) (hl : G.length ≤ 64) (hfn : ∀ x ∈ G, x.fn ≤ 1000000) :
    Calls Try.prog 25 #[.pointer (some ⟨b, 0, none⟩)] w (ListP w G) := by
  obtain ⟨i0, hi0, hz0, hz1, hz2⟩ := info_parts gm_info
  obtain ⟨n, hn⟩ : ∃ n, G.length = n := ⟨_, rfl⟩
  have HN := Lib.hid hn; have HFN := Lib.hid hfn
  obtain ⟨a, c, M⟩ := h.mid
  obtain ⟨m1, m2, m3, m4, m5, m6, m7, m8, m9⟩ := M
  rw [hn] at m3 m5 hl
  have OW := Lib.hid m5; have FR := Lib.hid m6
  clear h m1 m2 m4 m5 m6 m7 m8 m9 hn hfn
  go_enter Try.func25, Try.ntmps25
  go_wp2_with fail
  go_loopw [3, 13] (fun ov iv wr => ∃ (j : Nat) (av : Option Addr) (cv : Nat) (K : List GM), j ≤ n ∧ K.length = j ∧ iv = .int .i64 j ∧ ov = .slice av j cv ∧ Hid (∀ i, i < j → Alike (K.getD i gm0) (G.getD i gm0)) ∧ Hid (GOwn w wr av cv K)) (fun _ iv _ => n - (intOf iv).toNat)
  case atStart => exact ⟨0, none, 0, [], by omega, rfl, rfl, rfl, Lib.hid (fun i hi => by omega), Lib.hid (GOwn.nil w)⟩
  case round =>
    obtain ⟨j, av, cv, K, hj, hKl, rfl, rfl, hA, hO⟩ := hrel
    by_cases hlt : j < n
    · have OWr := owns_below OW.out hO.out.bel
      obtain ⟨g, rfl⟩ : ∃ g, a = some ⟨g, 0, none⟩ := by
        obtain ⟨g, cap', hv⟩ := Joins.ownsRow_form OWr (by omega)
        simp only [Value.slice.injEq] at hv
        exact ⟨g, hv.1⟩
      obtain ⟨v0, v1, v2, v3, v4⟩ := gmV_at G j (by rw [HN.out]; exact hlt)
      obtain ⟨x, hx⟩ : ∃ x, G.getD j gm0 = x := ⟨_, rfl⟩
      have HX := Lib.hid hx
      have hxm : x ∈ G := by rw [← hx, List.getD_eq_getElem?_getD, List.getElem?_eq_getElem (by rw [HN.out]; exact hlt)]; simp
      have hfx := FR.out x hxm
      have hfnx := HFN.out x hxm
      rw [hx] at v0 v1 v2 v3 v4
      have x0 := (OWr.cellAt (j * 5) (by omega)).trans v0
      have x1 := (OWr.cellAt (j * 5 + 1) (by omega)).trans v1
      have x2 := (OWr.cellAt (j * 5 + 2) (by omega)).trans v2
      have x3 := (OWr.cellAt (j * 5 + 3) (by omega)).trans v3
      have x4 := (OWr.cellAt (j * 5 + 4) (by omega)).trans v4
      have i1 : (0 : Int) ≤ (j : Int) := by omega
      have i2 : (j : Int) < (n : Int) := by omega
      have G5 := Lib.hid (hO.out.more (below_one wr (.cells #[.int .i64 x.id, .int .i64 x.frm, .int .i64 x.dst, .slice x.fa x.fn x.fc, .bool x.sp] 42)))
      have A5 := Lib.hid (show GmIn (wr.alloc (.cells #[.int .i64 x.id, .int .i64 x.frm, .int .i64 x.dst, .slice x.fa x.fn x.fc, .bool x.sp] 42)) wr.heap.size x from gmIn_new wr x _ _ _ rfl)
      have FB5 := Lib.hid ((hfx.1.below hO.out.bel).below (below_one wr (.cells #[.int .i64 x.id, .int .i64 x.frm, .int .i64 x.dst, .slice x.fa x.fn x.fc, .bool x.sp] 42)))
      have FNO := Lib.hid hfx.2.1
      clear v0 v1 v2 v3 v4 hx hxm hfx OWr hO
      go_upto_region 7 with fail
      clear x0 x1 x2 x3 x4
      generalize wr.alloc (.cells #[.int .i64 x.id, .int .i64 x.frm, .int .i64 x.dst, .slice x.fa x.fn x.fc, .bool x.sp] 42) = w5 at *
      generalize wr.heap.size = p at *
      obtain ⟨x0, x1, x2, x3, x4⟩ := A5.out
      have CC := Lib.hid (copied_any x w5 FB5.out FNO.out hfnx)
      go_wp2_with fail
      refine CC.out.mono ?_
      rintro e wf ⟨fa, fc, rfl, hOF, hbF, hNF⟩
      have OWF := Lib.hid (show wf.ownsRow w.heap.size 42 5 (.slice av j cv) j (gmV K) from by have := owns_below G5.out.row hbF; rwa [hKl] at this)
      have BF := Lib.hid (G5.out.bel.trans (hbF.mono G5.out.bel.size))
      have OFF := Lib.hid hOF; have HBF := Lib.hid hbF
      have HBS := Lib.hid FB5.out.2
      clear x0 x1 x2 x3 x4 CC hOF hbF hNF
      go_wp2_with (at_builtin; refine wpList_append_lies _ rfl (.tmp 17) (.tmp 20) 46 rfl w.heap.size 42 i0 _ 5 56 Try.underlying46 hi0 hz0 hz1 hz2 rfl (by omega) (.slice av j cv) j (gmV K) (by rfl) (OWF.out.alloc _) ⟨wf.heap.size, 0, none⟩ 1 1 [.int .i64 x.id, .int .i64 x.frm, .int .i64 x.dst, .slice fa x.bs.length fc, .bool x.sp] (by rfl) (by rfl) (World.news_of_block (cs := #[.int .i64 x.id, .int .i64 x.frm, .int .i64 x.dst, .slice fa x.bs.length fc, .bool x.sp]) (t := 42) (fr := (0, 0)) (heap_alloc_new wf _)) (by simp [Value.oneCell']) (by omega) (by unfold maxLen; omega) (by omega) (by have := BF.out.size; simp; omega) (wf.heap.size + 1) (by simp) ?_; intro g3 c3 w6 hown6 hgrow6 hat6 hlt6)
      have G6 := Lib.hid (show GOwn w w6 (some ⟨g3, 0, none⟩) c3 (K ++ [⟨x.id, x.frm, x.dst, fa, x.bs.length, fc, x.sp, x.bs⟩]) from G5.out.grow HBF.out OFF.out HBS.out (by rw [hKl]; exact hown6) (by rw [hKl]; exact hgrow6) (by rw [hKl]; exact hat6.imp id (fun e => by simp; exact e)))
      have A6 := Lib.hid (show ∀ i, i < j + 1 → Alike ((K ++ [(⟨x.id, x.frm, x.dst, fa, x.bs.length, fc, x.sp, x.bs⟩ : GM)]).getD i gm0) (G.getD i gm0) from fun i hi => by
        rcases Nat.lt_succ_iff_lt_or_eq.1 hi with e | e
        · rw [List.getD_eq_getElem?_getD, List.getElem?_append_left (by omega), ← List.getD_eq_getElem?_getD]
          exact hA.out i e
        · subst e
          rw [HX.out, List.getD_eq_getElem?_getD, List.getElem?_append_right (by omega), hKl, Nat.sub_self]
          exact ⟨rfl, rfl, rfl, rfl, rfl⟩)
      clear hown6 hgrow6 hat6 hlt6
      go_roundw
      case rel => exact ⟨j + 1, some ⟨g3, 0, none⟩, c3, _, by omega, by simp [hKl], by go_num, rfl, A6, G6⟩
      case measure => simp [intOf] <;> omega
    · obtain rfl : j = n := by omega
      go_wp2_with fail
      go_ret
      exact ⟨av, cv, K, by rw [hKl]; rfl, by rw [hKl, HN.out], fun i hi => hA.out i (by rw [HN.out] at hi; exact hi), hO.out⟩
end Go.Proofs.Ytecdigcadmokfaa
/- net: both nets by one plain list -/
namespace Go.Proofs.Ytecdigcadmokfaa
open Go.RowKit
set_option linter.unusedVariables false
set_option maxRecDepth 20000
/-- a datagram without where its frame lies -/
def npl (x : GM) : GM := ⟨x.id, x.frm, x.dst, none, 0, 0, x.sp, x.bs⟩
theorem npl_alike {x y : GM} (h : npl x = npl y) : Alike x y := by
  unfold npl at h
  injection h with h1 h2 h3 h4 h5 h6 h7 h8
  exact ⟨h1, h2, h3, h7, h8⟩
theorem npl_npl (x : GM) : npl (npl x) = npl x := rfl
theorem getD_npl (G : List GM) (i : Nat) : (G.map npl).getD i gm0 = npl (G.getD i gm0) := by
  by_cases h : i < G.length
  · rw [List.getD_eq_getElem?_getD, List.getD_eq_getElem?_getD, List.getElem?_map, List.getElem?_eq_getElem h]; rfl
  · rw [List.getD_eq_getElem?_getD, List.getD_eq_getElem?_getD, List.getElem?_map, List.getElem?_eq_none (by omega)]; rfl
def NAtP (w : World) (b : Nat) (most nx : Int) (P : List GM) (S : Nat → Prop) : Prop := ∃ G, NAt w b most nx G S ∧ G.map npl = P
def RNAtP (w : World) (b : Nat) (most nx : Int) (P : List GM) (S : Nat → Prop) : Prop := ∃ G, RNAt w b most nx G S ∧ G.map npl = P
theorem NAtP.below {w w' : World} {b : Nat} {most nx : Int} {P : List GM} {S : Nat → Prop} (h : NAtP w b most nx P S) (hb : Below w.heap.size w w') : NAtP w' b most nx P S := by obtain ⟨G, h, e⟩ := h; exact ⟨G, h.below hb, e⟩
theorem RNAtP.below {w w' : World} {b : Nat} {most nx : Int} {P : List GM} {S : Nat → Prop} (h : RNAtP w b most nx P S) (hb : Below w.heap.size w w') : RNAtP w' b most nx P S := by obtain ⟨G, h, e⟩ := h; exact ⟨G, h.below hb, e⟩
theorem NAtP.turn {w w' : World} {b : Nat} {most nx : Int} {P : List GM} {S F : Nat → Prop} (h : NAtP w b most nx P S) (t : Turn F w w') (hF : ∀ k, S k → ¬ F k) : NAtP w' b most nx P S := by obtain ⟨G, h, e⟩ := h; exact ⟨G, h.turn t hF, e⟩
theorem RNAtP.turn {w w' : World} {b : Nat} {most nx : Int} {P : List GM} {S F : Nat → Prop} (h : RNAtP w b most nx P S) (t : Turn F w w') (hF : ∀ k, S k → ¬ F k) : RNAtP w' b most nx P S := by obtain ⟨G, h, e⟩ := h; exact ⟨G, h.turn t hF, e⟩
theorem NAtP.lt {w : World} {b : Nat} {most nx : Int} {P : List GM} {S : Nat → Prop} (h : NAtP w b most nx P S) : ∀ k, S k → k < w.heap.size := by obtain ⟨G, h, e⟩ := h; exact h.lt
theorem RNAtP.lt {w : World} {b : Nat} {most nx : Int} {P : List GM} {S : Nat → Prop} (h : RNAtP w b most nx P S) : ∀ k, S k → k < w.heap.size := by obtain ⟨G, h, e⟩ := h; exact h.lt
theorem NAtP.has {w : World} {b : Nat} {most nx : Int} {P : List GM} {S : Nat → Prop} (h : NAtP w b most nx P S) : S b := by obtain ⟨G, h, e⟩ := h; exact h.has
theorem RNAtP.has {w : World} {b : Nat} {most nx : Int} {P : List GM} {S : Nat → Prop} (h : RNAtP w b most nx P S) : S b := by obtain ⟨G, h, e⟩ := h; exact h.has
def PN (w : World) (b : Nat) (most nx : Int) (P : List GM) (S : Nat → Prop) (w' : World) : Prop := ∃ S', NAtP w' b most nx P S' ∧ (∀ k, S' k → S k ∨ w.heap.size ≤ k) ∧ Turn S w w'
def PR (w : World) (b : Nat) (most nx : Int) (P : List GM) (S : Nat → Prop) (w' : World) : Prop := ∃ S', RNAtP w' b most nx P S' ∧ (∀ k, S' k → S k ∨ w.heap.size ≤ k) ∧ Turn S w w'
theorem PN.turn {w w' : World} {b : Nat} {most nx : Int} {P : List GM} {S : Nat → Prop} (h : PN w b most nx P S w') : Turn S w w' := by obtain ⟨_, _, _, h⟩ := h; exact h
theorem PR.turn {w w' : World} {b : Nat} {most nx : Int} {P : List GM} {S : Nat → Prop} (h : PR w b most nx P S w') : Turn S w w' := by obtain ⟨_, _, _, h⟩ := h; exact h
theorem PN.more {w w' w'' : World} {b : Nat} {most nx : Int} {P : List GM} {S : Nat → Prop} (h : PN w b most nx P S w') (hb : Below w'.heap.size w' w'') : PN w b most nx P S w'' := by
  obtain ⟨T, q, s, t⟩ := h
  exact ⟨T, q.below hb, s, t.trans (Turn.of_below hb)⟩
theorem PR.more {w w' w'' : World} {b : Nat} {most nx : Int} {P : List GM} {S : Nat → Prop} (h : PR w b most nx P S w') (hb : Below w'.heap.size w' w'') : PR w b most nx P S w'' := by
  obtain ⟨T, q, s, t⟩ := h
  exact ⟨T, q.below hb, s, t.trans (Turn.of_below hb)⟩
theorem PN.same {w w' : World} {b : Nat} {most nx : Int} {P : List GM} {S : Nat → Prop} (h : NAtP w b most nx P S) (hb : Below w.heap.size w w') : PN w b most nx P S w' := ⟨S, h.below hb, fun k hk => Or.inl hk, Turn.of_below hb⟩
theorem PR.same {w w' : World} {b : Nat} {most nx : Int} {P : List GM} {S : Nat → Prop} (h : RNAtP w b most nx P S) (hb : Below w.heap.size w w') : PR w b most nx P S w' := ⟨S, h.below hb, fun k hk => Or.inl hk, Turn.of_below hb⟩
/-- both nets hold P, in blocks apart -/
structure Ctx (w0 w : World) (b1 b2 : Nat) (most nx : Int) (P : List GM) (S1 S2 : Nat → Prop) : Prop where
  q : NAtP w b1 most nx P S1
  r : RNAtP w b2 most nx P S2
  d : ∀ k, S1 k → ¬ S2 k
  l1 : ∀ k, S1 k → w0.heap.size ≤ k
  l2 : ∀ k, S2 k → w0.heap.size ≤ k
  b : Below w0.heap.size w0 w
def Bth (w0 w : World) (b1 b2 : Nat) (most nx : Int) (P : List GM) : Prop := ∃ S1 S2, Ctx w0 w b1 b2 most nx P S1 S2
theorem Bth.bel {w0 w : World} {b1 b2 : Nat} {most nx : Int} {P : List GM} (h : Bth w0 w b1 b2 most nx P) : Below w0.heap.size w0 w := by obtain ⟨_, _, h⟩ := h; exact h.b
theorem Ctx.more {w0 w w' : World} {b1 b2 : Nat} {most nx : Int} {P : List GM} {S1 S2 : Nat → Prop} (c : Ctx w0 w b1 b2 most nx P S1 S2) (hb : Below w.heap.size w w') : Ctx w0 w' b1 b2 most nx P S1 S2 := ⟨c.q.below hb, c.r.below hb, c.d, c.l1, c.l2, c.b.trans (hb.mono c.b.size)⟩
/-- what lies in none of their blocks is stored -/
theorem Ctx.far {w0 w w' : World} {b1 b2 : Nat} {most nx : Int} {P : List GM} {S1 S2 F : Nat → Prop} (c : Ctx w0 w b1 b2 most nx P S1 S2) (t : Turn F w w') (h1 : ∀ k, F k → w0.heap.size ≤ k) (hF1 : ∀ k, S1 k → ¬ F k) (hF2 : ∀ k, S2 k → ¬ F k) : Ctx w0 w' b1 b2 most nx P S1 S2 :=
  ⟨c.q.turn t hF1, c.r.turn t hF2, c.d, c.l1, c.l2, c.b.trans (t.below h1 c.b.size)⟩
theorem Bth.more {w0 w w' : World} {b1 b2 : Nat} {most nx : Int} {P : List GM} (h : Bth w0 w b1 b2 most nx P) (hb : Below w.heap.size w w') : Bth w0 w' b1 b2 most nx P := by
  obtain ⟨S1, S2, h⟩ := h
  exact ⟨S1, S2, h.more hb⟩
theorem Ctx.q2 {w0 w w' : World} {b1 b2 : Nat} {most nx m2 : Int} {P P2 : List GM} {S1 S2 : Nat → Prop} (c : Ctx w0 w b1 b2 most nx P S1 S2) (h : PR w b2 most m2 P2 S2 w') : NAtP w' b1 most nx P S1 := c.q.turn h.turn c.d
theorem Ctx.r2 {w0 w w' : World} {b1 b2 : Nat} {most nx m2 : Int} {P P2 : List GM} {S1 S2 : Nat → Prop} (c : Ctx w0 w b1 b2 most nx P S1 S2) (h : PN w b1 most m2 P2 S1 w') : RNAtP w' b2 most nx P S2 := c.r.turn h.turn (fun k h2 h1 => c.d k h1 h2)
theorem Ctx.qr {w0 w w1 w2 : World} {b1 b2 : Nat} {most nx m2 : Int} {P P2 : List GM} {S1 S2 : Nat → Prop} (c : Ctx w0 w b1 b2 most nx P S1 S2) (h : PN w b1 most m2 P2 S1 w1) (k : PR w1 b2 most m2 P2 S2 w2) : Bth w0 w2 b1 b2 most m2 P2 := by
  obtain ⟨T1, q1, s1, t1⟩ := h
  obtain ⟨T2, r2, s2, t2⟩ := k
  have hz := t1.size
  have dd : ∀ k, T1 k → ¬ S2 k := fun k h1 h2 => by
    rcases s1 k h1 with x | x
    · exact c.d k x h2
    · have := c.r.lt k h2; omega
  refine ⟨T1, T2, q1.turn t2 dd, r2, fun k h1 h2 => ?_, fun k hk => ?_, fun k hk => ?_, ?_⟩
  · rcases s2 k h2 with x | x
    · exact dd k h1 x
    · have := q1.lt k h1; omega
  · rcases s1 k hk with x | x
    · exact c.l1 k x
    · have := c.b.size; omega
  · rcases s2 k hk with x | x
    · exact c.l2 k x
    · have := c.b.size; omega
  · exact c.b.trans ((t1.below c.l1 c.b.size).trans (t2.below c.l2 (Nat.le_trans c.b.size t1.size)))
theorem Ctx.rq {w0 w w1 w2 : World} {b1 b2 : Nat} {most nx m2 : Int} {P P2 : List GM} {S1 S2 : Nat → Prop} (c : Ctx w0 w b1 b2 most nx P S1 S2) (h : PR w b2 most m2 P2 S2 w1) (k : PN w1 b1 most m2 P2 S1 w2) : Bth w0 w2 b1 b2 most m2 P2 := by
  obtain ⟨T2, r1, s1, t1⟩ := h
  obtain ⟨T1, q2, s2, t2⟩ := k
  have hz := t1.size
  have dd : ∀ k, T2 k → ¬ S1 k := fun k h1 h2 => by
    rcases s1 k h1 with x | x
    · exact c.d k h2 x
    · have := c.q.lt k h2; omega
  refine ⟨T1, T2, q2, r1.turn t2 dd, fun k h2 h1 => ?_, fun k hk => ?_, fun k hk => ?_, ?_⟩
  · rcases s2 k h2 with x | x
    · exact dd k h1 x
    · have := r1.lt k h1; omega
  · rcases s2 k hk with x | x
    · exact c.l1 k x
    · have := c.b.size; omega
  · rcases s1 k hk with x | x
    · exact c.l2 k x
    · have := c.b.size; omega
  · exact c.b.trans ((t1.below c.l2 c.b.size).trans (t2.below c.l1 (Nat.le_trans c.b.size t1.size)))
/-- what may be on its way -/
def PGood (most : Int) (P : List GM) : Prop := (P.length : Int) ≤ most ∧ ∀ x ∈ P, x.bs.length ≤ 100
theorem pgood_fn {most : Int} {G P : List GM} (hg : PGood most P) (e : G.map npl = P) : ∀ x ∈ G, x.bs.length ≤ 100 := fun x hx => by
  have := hg.2 (npl x) (by rw [← e]; exact List.mem_map_of_mem hx)
  exact this
namespace Nx
/-- the plain calls -/
def sendL (most nx f t : Int) (bs : List Nat) (P : List GM) : List GM := if (P.length : Int) < most then P ++ [⟨nx, f, t, none, 0, 0, false, bs⟩] else P
def inL (P : List GM) (i : Int) : Bool := decide (0 ≤ i ∧ i < (P.length : Int))
def cutL (P : List GM) (i : Int) : List GM := if inL P i then P.take i.toNat ++ P.drop (i.toNat + 1) else P
def atL (P : List GM) (i : Int) : GM := if inL P i then P.getD i.toNat gm0 else gm0
def dblZ (most : Int) (P : List GM) (i : Int) : Bool := inL P i && decide ((P.length : Int) < most)
def dblL (most : Int) (P : List GM) (i : Int) : List GM := if dblZ most P i then P ++ [P.getD i.toNat gm0] else P
def spZ (P : List GM) (i : Int) : Bool := inL P i && (!(P.getD i.toNat gm0).sp && decide (0 < (P.getD i.toNat gm0).bs.length))
def spL (P : List GM) (i at_ x : Int) : List GM := if spZ P i then P.set i.toNat ⟨(P.getD i.toNat gm0).id, (P.getD i.toNat gm0).frm, (P.getD i.toNat gm0).dst, none, 0, 0, true, Dm.turned (P.getD i.toNat gm0).bs at_ x⟩ else P
theorem inL_nat {P : List GM} {i : Int} (h : inL P i = true) : ∃ k : Nat, i = (k : Int) ∧ k < P.length := by
  have := of_decide_eq_true h
  exact ⟨i.toNat, by omega, by omega⟩
end Nx
end Go.Proofs.Ytecdigcadmokfaa
/- net: both nets' calls by one plain list -/
namespace Go.Proofs.Ytecdigcadmokfaa
open Go.RowKit
set_option linter.unusedVariables false
set_option maxRecDepth 20000
theorem Roomy.own {w : World} {B : Nat} {e : TypeId} {mark : Value} {n : Nat} {xs : List Value} {k : Nat} (h : Roomy w B e mark n xs k) (hl : xs.length = n) (hn : n + 3 ≤ maxLen) : w.ownsRow B e 1 (.slice (some ⟨B, 0, none⟩) n (n + 3)) n xs := by
  obtain ⟨cs, h1, h2, h3, h4⟩ := h
  refine ⟨by omega, Or.inr ⟨B, n + 3, cs, rfl, Nat.le_refl _, h1, by omega, hn, by omega, ?_⟩⟩
  apply List.ext_getElem?
  intro i
  rw [List.getElem?_take, Nat.mul_one]
  by_cases hi : i < n
  · rw [if_pos hi, Array.getElem?_toList, h3 i hi, List.getD_eq_getElem?_getD, List.getElem?_eq_getElem (by omega)]; rfl
  · rw [if_neg hi, List.getElem?_eq_none (by omega)]
theorem Roomy.turn {w w' : World} {B : Nat} {e : TypeId} {mark : Value} {n : Nat} {xs : List Value} {k : Nat} {F : Nat → Prop} (h : Roomy w B e mark n xs k) (t : Turn F w w') (hF : ¬ F B) : Roomy w' B e mark n xs k := by
  have hlt := h.lt
  obtain ⟨cs, h1, h2⟩ := h
  exact ⟨cs, by rw [t.block B hlt hF]; exact h1, h2⟩
theorem map_app {G P : List GM} {x : GM} (e : G.map npl = P) : (G ++ [x]).map npl = P ++ [npl x] := by rw [List.map_append, e]; rfl
theorem map_cut {G P : List GM} (k : Nat) (e : G.map npl = P) : (G.take k ++ G.drop (k + 1)).map npl = P.take k ++ P.drop (k + 1) := by rw [List.map_append, List.map_take, List.map_drop, e]
theorem map_put {G P : List GM} (k : Nat) {x : GM} (e : G.map npl = P) : (G.set k x).map npl = P.set k (npl x) := by rw [List.map_set, e]
theorem len_npl {G P : List GM} (e : G.map npl = P) : G.length = P.length := by rw [← e, List.length_map]
theorem nSend_lit (f t nx' : Int) (ia : Option Addr) (n ic : Nat) (bs : List Nat) (z : Bool) (P' : List GM) (b : Nat) {most nx : Int} {P : List GM} {S : Nat → Prop} (w : World) (h : NAtP w b most nx P S) (hx : 0 ≤ nx ∧ nx ≤ 1000000000) (hm : most ≤ 64)
    (hi : HoldsB w ia n bs) (hin : ia = none → n = 0 ∧ ic = 0) (hn : n ≤ 1000000) (hiS : ∀ fb fo, ia = some ⟨fb, fo, none⟩ → ¬ S fb) (hnx : nx + 1 = nx') (hz : decide ((P.length : Int) < most) = z) (hP : Nx.sendL most nx f t bs P = P') :
    Calls Try.prog 13 #[.pointer (some ⟨b, 0, none⟩), .int .i64 f, .int .i64 t, .slice ia n ic] w fun e w' => e = .returned (.tuple #[.int .i64 nx, .bool z]) ∧ PN w b most nx' P' S w' := by
  obtain ⟨G, h, hG⟩ := h
  have hl := len_npl hG
  subst hnx hz hP
  by_cases hf : (P.length : Int) < most
  · refine (nSend_in f t ia n ic bs b w h hx (by omega) hm hi hin hn hiS).mono ?_
    rintro e w' ⟨rfl, x, S', x1, x2, x3, x4, x5, x6, q, s, tt⟩
    refine ⟨by rw [decide_eq_true hf], S', ⟨G ++ [x], q, ?_⟩, s, tt⟩
    rw [map_app hG]
    unfold Nx.sendL
    rw [if_pos hf]
    unfold npl
    rw [x1, x2, x3, x5, x6]
  · refine (nSend_full f t _ b w h hx (by omega)).mono ?_
    rintro e w' ⟨rfl, q, tt⟩
    refine ⟨by rw [decide_eq_false hf], S, ⟨G, q, ?_⟩, fun k hk => Or.inl hk, tt⟩
    unfold Nx.sendL
    rw [if_neg hf, hG]
theorem holdsB_far {w w' : World} {a : Option Addr} {n : Nat} {bs : List Nat} (h : HoldsB w a n bs) (hf : 0 < n → ∀ fb fo, a = some ⟨fb, fo, none⟩ → w'.heap[fb]? = w.heap[fb]?) : HoldsB w' a n bs := by
  by_cases h0 : 0 < n
  · exact holdsB_blocks h (hf h0)
  · exact ⟨⟨h.1.1, fun h => absurd h h0⟩, h.2⟩
theorem rSend_lit (f t nx' : Int) (ia : Option Addr) (n ic : Nat) (bs : List Nat) (z : Bool) (P' : List GM) (b : Nat) {most nx : Int} {P : List GM} {S : Nat → Prop} (w : World) (h : RNAtP w b most nx P S) (hx : 0 ≤ nx ∧ nx ≤ 1000000000) (hm : most ≤ 64)
    (hi : HoldsB w ia n bs) (hin : ia = none → n = 0 ∧ ic = 0) (hn : n ≤ 1000000) (hiS : 0 < n → ∀ fb fo, ia = some ⟨fb, fo, none⟩ → ¬ S fb) (hnx : nx + 1 = nx') (hz : decide ((P.length : Int) < most) = z) (hP : Nx.sendL most nx f t bs P = P') :
    Calls Try.prog 14 #[.pointer (some ⟨b, 0, none⟩), .int .i64 f, .int .i64 t, .slice ia n ic] w fun e w' => e = .returned (.tuple #[.int .i64 nx, .bool z]) ∧ PR w b most nx' P' S w' := by
  obtain ⟨G, h, hG⟩ := h
  have hl := len_npl hG
  subst hnx hz hP
  by_cases hf : (P.length : Int) < most
  · refine (rSend_core f t ia n ic bs b w h hx (by omega) hm (holdsB_far hi (fun h0 fb fo e => heap_set_far (fun e2 => hiS h0 fb fo e (by rw [e2]; exact h.has)))) hin hn).mono ?_
    rintro e w' ⟨rfl, fa, fc, S', q, s, tt⟩
    refine ⟨by rw [decide_eq_true hf], S', ⟨_, q, ?_⟩, s, tt⟩
    rw [map_app hG]
    unfold Nx.sendL
    rw [if_pos hf]
    rfl
  · refine (rSend_full f t _ b w h hx (by omega)).mono ?_
    rintro e w' ⟨rfl, q, tt⟩
    refine ⟨by rw [decide_eq_false hf], S, ⟨G, q, ?_⟩, fun k hk => Or.inl hk, tt⟩
    unfold Nx.sendL
    rw [if_neg hf, hG]
def DelA (S : Nat → Prop) (y0 : GM) (z : Bool) (w' : World) (e : Ending) : Prop := ∃ y : GM, npl y = y0 ∧ e = .returned (.tuple #[.agg #[.int .i64 y.id, .int .i64 y.frm, .int .i64 y.dst, .slice y.fa y.fn y.fc, .bool y.sp], .bool z]) ∧ HoldsB w' y.fa y.fn y.bs ∧ ∀ fb fo, y.fa = some ⟨fb, fo, none⟩ → S fb
theorem inL_out {P G : List GM} {i : Int} (hz : Nx.inL P i = false) (e : G.map npl = P) : ¬ (0 ≤ i ∧ i < (G.length : Int)) := by
  have := of_decide_eq_false hz
  rw [len_npl e]; exact this
theorem nDeliver_lit (i : Int) (z : Bool) (y0 : GM) (P' : List GM) (b : Nat) {most nx : Int} {P : List GM} {S : Nat → Prop} (w : World) (h : NAtP w b most nx P S) (hl : P.length ≤ 64) (hz : Nx.inL P i = z) (hy : Nx.atL P i = y0) (hP : Nx.cutL P i = P') :
    Calls Try.prog 17 #[.pointer (some ⟨b, 0, none⟩), .int .i64 i] w fun e w' => DelA S y0 z w' e ∧ PN w b most nx P' S w' := by
  obtain ⟨G, h, hG⟩ := h
  subst hy hP
  unfold Nx.atL Nx.cutL
  rw [hz]
  cases z
  · refine (nDeliver_out i b w h (inL_out hz hG)).mono ?_
    rintro e w' ⟨rfl, hb⟩
    exact ⟨⟨gm0, rfl, rfl, holdsB_nil _ _, fun fb fo e => (by cases e)⟩, PN.same ⟨G, h, hG⟩ hb⟩
  · obtain ⟨k, rfl, hk⟩ := Nx.inL_nat hz
    have hk2 : k < G.length := by rw [len_npl hG]; exact hk
    refine (nDeliver_in k _ b w h hk2 (by rw [len_npl hG]; exact hl) rfl).mono ?_
    rintro e w' ⟨rfl, q, tt, hB⟩
    have hfr : ∀ fb fo, (G.getD k gm0).fa = some ⟨fb, fo, none⟩ → S fb := by
      obtain ⟨a, c, M⟩ := h.mid
      exact fun fb fo e => ((M.2.2.2.2.2.1 _ (mem_at hk2)).2.2 fb fo e).1
    refine ⟨⟨_, ?_, rfl, hB, hfr⟩, S, ⟨_, q, ?_⟩, fun k hk => Or.inl hk, tt⟩
    · rw [if_pos rfl, Int.toNat_natCast, ← hG, getD_npl]
    · rw [if_pos rfl, Int.toNat_natCast, map_cut _ hG]
theorem nDrop_lit (i : Int) (z : Bool) (y0 : GM) (P' : List GM) (b : Nat) {most nx : Int} {P : List GM} {S : Nat → Prop} (w : World) (h : NAtP w b most nx P S) (hl : P.length ≤ 64) (hz : Nx.inL P i = z) (hy : Nx.atL P i = y0) (hP : Nx.cutL P i = P') :
    Calls Try.prog 20 #[.pointer (some ⟨b, 0, none⟩), .int .i64 i] w fun e w' => e = .returned (.tuple #[.int .i64 y0.id, .bool z]) ∧ PN w b most nx P' S w' := by
  obtain ⟨G, h, hG⟩ := h
  subst hy hP
  unfold Nx.atL Nx.cutL
  rw [hz]
  cases z
  · refine (nDrop_out i b w h (inL_out hz hG)).mono ?_
    rintro e w' ⟨rfl, hb⟩
    exact ⟨rfl, PN.same ⟨G, h, hG⟩ hb⟩
  · obtain ⟨k, rfl, hk⟩ := Nx.inL_nat hz
    have hk2 : k < G.length := by rw [len_npl hG]; exact hk
    refine (nDrop_in k _ b w h hk2 (by rw [len_npl hG]; exact hl) rfl).mono ?_
    rintro e w' ⟨rfl, q, tt⟩
    refine ⟨?_, S, ⟨_, q, ?_⟩, fun k hk => Or.inl hk, tt⟩
    · rw [if_pos rfl, Int.toNat_natCast, ← hG, getD_npl]; rfl
    · rw [if_pos rfl, Int.toNat_natCast, map_cut _ hG]
theorem rDeliver_lit (i : Int) (z : Bool) (y0 : GM) (P' : List GM) (b : Nat) {most nx : Int} {P : List GM} {S : Nat → Prop} (w : World) (h : RNAtP w b most nx P S) (hl : P.length ≤ 64) (hz : Nx.inL P i = z) (hy : Nx.atL P i = y0) (hP : Nx.cutL P i = P') :
    Calls Try.prog 18 #[.pointer (some ⟨b, 0, none⟩), .int .i64 i] w fun e w' => DelA S y0 z w' e ∧ PR w b most nx P' S w' := by
  obtain ⟨G, h, hG⟩ := h
  subst hy hP
  unfold Nx.atL Nx.cutL
  rw [hz]
  cases z
  · refine (rDeliver_out i b w h (inL_out hz hG)).mono ?_
    rintro e w' ⟨rfl, hb⟩
    exact ⟨⟨gm0, rfl, rfl, holdsB_nil _ _, fun fb fo e => (by cases e)⟩, PR.same ⟨G, h, hG⟩ hb⟩
  · obtain ⟨k, rfl, hk⟩ := Nx.inL_nat hz
    have hk2 : k < G.length := by rw [len_npl hG]; exact hk
    refine (rDeliver_in k _ b w h hk2 (by rw [len_npl hG]; exact hl) rfl).mono ?_
    rintro e w' ⟨rfl, S', q, s, tt, hB⟩
    refine ⟨⟨_, ?_, rfl, hB, fun fb fo e => ((h.frame (mem_at hk2)).2.2 fb fo e).1⟩, S', ⟨_, q, ?_⟩, s, tt⟩
    · rw [if_pos rfl, Int.toNat_natCast, ← hG, getD_npl]
    · rw [if_pos rfl, Int.toNat_natCast, map_cut _ hG]
theorem dblZ_no {most : Int} {P : List GM} {i : Int} (h : Nx.dblZ most P i = false) : Nx.inL P i = false ∨ (Nx.inL P i = true ∧ most ≤ (P.length : Int)) := by
  unfold Nx.dblZ at h
  cases hi : Nx.inL P i
  · exact Or.inl rfl
  · rw [hi] at h
    simp at h
    exact Or.inr ⟨rfl, h⟩
theorem dblZ_yes {most : Int} {P : List GM} {i : Int} (h : Nx.dblZ most P i = true) : Nx.inL P i = true ∧ (P.length : Int) < most := by
  unfold Nx.dblZ at h
  simpa using h
theorem nDouble_lit (i : Int) (z : Bool) (P' : List GM) (b : Nat) {most nx : Int} {P : List GM} {S : Nat → Prop} (w : World) (h : NAtP w b most nx P S) (hm : most ≤ 64) (hg : PGood most P) (hz : Nx.dblZ most P i = z) (hP : Nx.dblL most P i = P') :
    Calls Try.prog 21 #[.pointer (some ⟨b, 0, none⟩), .int .i64 i] w fun e w' => e = .returned (.bool z) ∧ PN w b most nx P' S w' := by
  obtain ⟨G, h, hG⟩ := h
  have hl := len_npl hG
  subst hP
  unfold Nx.dblL
  rw [hz]
  cases z
  · rcases dblZ_no hz with hi | ⟨hi, hf⟩
    · refine (nDouble_out i b w h (inL_out hi hG)).mono ?_
      rintro e w' ⟨rfl, hb⟩
      exact ⟨rfl, PN.same ⟨G, h, hG⟩ hb⟩
    · have := of_decide_eq_true hi
      refine (nDouble_full i b w h (by omega) (by omega)).mono ?_
      rintro e w' ⟨rfl, hb⟩
      exact ⟨rfl, PN.same ⟨G, h, hG⟩ hb⟩
  · obtain ⟨hi, hf⟩ := dblZ_yes hz
    obtain ⟨k, rfl, hk⟩ := Nx.inL_nat hi
    have hk2 : k < G.length := by omega
    have hx : G.getD k gm0 ∈ G := mem_at hk2
    have hfn : (G.getD k gm0).fn ≤ 1000000 := by
      obtain ⟨a, c, M⟩ := h.mid
      have := (M.2.2.2.2.2.1 _ hx).1.len
      have := pgood_fn hg hG _ hx
      omega
    refine (nDouble_in k _ b w h hk2 rfl (by omega) hm hfn).mono ?_
    rintro e w' ⟨rfl, fa, fc, S', q, s, tt⟩
    refine ⟨rfl, S', ⟨_, q, ?_⟩, s, tt⟩
    rw [map_app hG, if_pos rfl, Int.toNat_natCast, ← hG, getD_npl]
    rfl
theorem rDouble_lit (i : Int) (z : Bool) (P' : List GM) (b : Nat) {most nx : Int} {P : List GM} {S : Nat → Prop} (w : World) (h : RNAtP w b most nx P S) (hm : most ≤ 64) (hg : PGood most P) (hz : Nx.dblZ most P i = z) (hP : Nx.dblL most P i = P') :
    Calls Try.prog 22 #[.pointer (some ⟨b, 0, none⟩), .int .i64 i] w fun e w' => e = .returned (.bool z) ∧ PR w b most nx P' S w' := by
  obtain ⟨G, h, hG⟩ := h
  have hl := len_npl hG
  subst hP
  unfold Nx.dblL
  rw [hz]
  cases z
  · rcases dblZ_no hz with hi | ⟨hi, hf⟩
    · refine (rDouble_out i b w h (inL_out hi hG)).mono ?_
      rintro e w' ⟨rfl, hb⟩
      exact ⟨rfl, PR.same ⟨G, h, hG⟩ hb⟩
    · have := of_decide_eq_true hi
      refine (rDouble_full i b w h (by omega) (by omega)).mono ?_
      rintro e w' ⟨rfl, hb⟩
      exact ⟨rfl, PR.same ⟨G, h, hG⟩ hb⟩
  · obtain ⟨hi, hf⟩ := dblZ_yes hz
    obtain ⟨k, rfl, hk⟩ := Nx.inL_nat hi
    have hk2 : k < G.length := by omega
    refine (rDouble_in k _ b w h hk2 rfl (by omega) hm).mono ?_
    rintro e w' ⟨rfl, S', q, s, tt⟩
    refine ⟨rfl, S', ⟨_, q, ?_⟩, s, tt⟩
    rw [map_app hG, if_pos rfl, Int.toNat_natCast, ← hG, getD_npl]
theorem spZ_no {P : List GM} {i : Int} (h : Nx.spZ P i = false) : Nx.inL P i = false ∨ (Nx.inL P i = true ∧ ((P.getD i.toNat gm0).sp = true ∨ (P.getD i.toNat gm0).bs.length = 0)) := by
  unfold Nx.spZ at h
  cases hi : Nx.inL P i
  · exact Or.inl rfl
  · rw [hi] at h
    refine Or.inr ⟨rfl, ?_⟩
    cases hs : (P.getD i.toNat gm0).sp
    · rw [hs] at h
      simp only [Bool.not_false, Bool.true_and, decide_eq_false_iff_not] at h
      exact Or.inr (by omega)
    · exact Or.inl rfl
theorem spZ_yes {P : List GM} {i : Int} (h : Nx.spZ P i = true) : Nx.inL P i = true ∧ (P.getD i.toNat gm0).sp = false ∧ 0 < (P.getD i.toNat gm0).bs.length := by
  unfold Nx.spZ at h
  simp only [Bool.and_eq_true, Bool.not_eq_true', decide_eq_true_eq] at h
  exact h
theorem nSpoil_lit (i at_ x : Int) (z : Bool) (P' : List GM) (b : Nat) {most nx : Int} {P : List GM} {S : Nat → Prop} (w : World) (h : NAtP w b most nx P S) (hm : most ≤ 64) (hg : PGood most P) (hz : Nx.spZ P i = z) (hP : Nx.spL P i at_ x = P') :
    Calls Try.prog 23 #[.pointer (some ⟨b, 0, none⟩), .int .i64 i, .int .i64 at_, .int .i64 x] w fun e w' => e = .returned (.bool z) ∧ PN w b most nx P' S w' := by
  obtain ⟨G, h, hG⟩ := h
  have hl := len_npl hG
  have hll := hg.1
  subst hP
  unfold Nx.spL
  rw [hz]
  have hlen : ∀ y ∈ G, y.bs.length = y.fn := by
    obtain ⟨a, c, M⟩ := h.mid
    exact fun y hy => (M.2.2.2.2.2.1 y hy).1.len
  cases z
  · rcases spZ_no hz with hi | ⟨hi, hf⟩
    · refine (nSpoil_out i at_ x b w h (inL_out hi hG)).mono ?_
      rintro e w' ⟨rfl, rfl⟩
      exact ⟨rfl, PN.same ⟨G, h, hG⟩ (Below.refl _ _)⟩
    · obtain ⟨k, rfl, hk⟩ := Nx.inL_nat hi
      rw [Int.toNat_natCast, ← hG, getD_npl] at hf
      have hk2 : k < G.length := by omega
      refine (nSpoil_no k at_ x _ b w h hk2 rfl (hf.imp id (fun e => by rw [← hlen _ (mem_at hk2)]; exact e))).mono ?_
      rintro e w' ⟨rfl, rfl⟩
      exact ⟨rfl, PN.same ⟨G, h, hG⟩ (Below.refl _ _)⟩
  · obtain ⟨hi, hs, hb0⟩ := spZ_yes hz
    obtain ⟨k, rfl, hk⟩ := Nx.inL_nat hi
    rw [Int.toNat_natCast, ← hG, getD_npl] at hs hb0
    have hk2 : k < G.length := by omega
    have hb1 : 0 < (G.getD k gm0).bs.length := hb0
    have hl1 := hlen _ (mem_at hk2)
    have hl2 := pgood_fn hg hG _ (mem_at hk2)
    refine (nSpoil_in k at_ x _ b w h hk2 rfl hs (by omega) (by omega) (by omega)).mono ?_
    rintro e w' ⟨rfl, fa, fc, S', q, s, tt⟩
    refine ⟨rfl, S', ⟨_, q, ?_⟩, s, tt⟩
    rw [map_put k hG, if_pos rfl, Int.toNat_natCast, ← hG, getD_npl]
    rfl
theorem rSpoil_lit (i at_ x : Int) (z : Bool) (P' : List GM) (b : Nat) {most nx : Int} {P : List GM} {S : Nat → Prop} (w : World) (h : RNAtP w b most nx P S) (hm : most ≤ 64) (hg : PGood most P) (hz : Nx.spZ P i = z) (hP : Nx.spL P i at_ x = P') :
    Calls Try.prog 24 #[.pointer (some ⟨b, 0, none⟩), .int .i64 i, .int .i64 at_, .int .i64 x] w fun e w' => e = .returned (.bool z) ∧ PR w b most nx P' S w' := by
  obtain ⟨G, h, hG⟩ := h
  have hl := len_npl hG
  have hll := hg.1
  subst hP
  unfold Nx.spL
  rw [hz]
  have hlen : ∀ y ∈ G, y.bs.length = y.fn := by
    obtain ⟨a, c, -, -, -, -, -, M, -⟩ := h
    exact fun y hy => (M y hy).1.len
  cases z
  · rcases spZ_no hz with hi | ⟨hi, hf⟩
    · refine (rSpoil_out i at_ x b w h (inL_out hi hG)).mono ?_
      rintro e w' ⟨rfl, hb⟩
      exact ⟨rfl, PR.same ⟨G, h, hG⟩ hb⟩
    · obtain ⟨k, rfl, hk⟩ := Nx.inL_nat hi
      rw [Int.toNat_natCast, ← hG, getD_npl] at hf
      have hk2 : k < G.length := by omega
      refine (rSpoil_no k at_ x _ b w h hk2 rfl (hf.imp id (fun e => by rw [← hlen _ (mem_at hk2)]; exact e))).mono ?_
      rintro e w' ⟨rfl, hb⟩
      exact ⟨rfl, PR.same ⟨G, h, hG⟩ hb⟩
  · obtain ⟨hi, hs, hb0⟩ := spZ_yes hz
    obtain ⟨k, rfl, hk⟩ := Nx.inL_nat hi
    rw [Int.toNat_natCast, ← hG, getD_npl] at hs hb0
    have hk2 : k < G.length := by omega
    have hb1 : 0 < (G.getD k gm0).bs.length := hb0
    have hl1 := hlen _ (mem_at hk2)
    have hl2 := pgood_fn hg hG _ (mem_at hk2)
    refine (rSpoil_in k at_ x _ b w h hk2 rfl hs (by omega) (by omega) (by omega)).mono ?_
    rintro e w' ⟨rfl, fa, fc, S', q, s, tt⟩
    refine ⟨rfl, S', ⟨_, q, ?_⟩, s, tt⟩
    rw [map_put k hG, if_pos rfl, Int.toNat_natCast, ← hG, getD_npl]
    rfl
end Go.Proofs.Ytecdigcadmokfaa
/- net: what the script asks besides -/
namespace Go.Proofs.Ytecdigcadmokfaa
open Go.RowKit
set_option linter.unusedVariables false
set_option maxRecDepth 20000
theorem nNew_bad (most : Int) (w : World) (h : ¬ (1 ≤ most ∧ most ≤ 64)) :
    Calls Try.prog 9 #[.int .i64 most] w fun e w' => e = .returned (.tuple #[.pointer none, .int .i64 2]) ∧ w = w' := by
  have CI := Lib.hid (nin_lit most 1 64 false w (decide_eq_false h))
  clear h
  go_enter Try.func9, Try.ntmps9
  go_wp2_with fail
  refine CI.out.mono ?_
  rintro e w' ⟨rfl, rfl⟩
  go_wp2_with fail
  exact bodyPost_ret (v := .tuple #[.pointer none, .int .i64 2]) (by simp [results, go_sem]) rfl ⟨rfl, rfl⟩
theorem rNew_bad (most : Int) (w : World) (h : ¬ (1 ≤ most ∧ most ≤ 64)) :
    Calls Try.prog 10 #[.int .i64 most] w fun e w' => e = .returned (.tuple #[.pointer none, .int .i64 2]) ∧ w = w' := by
  by_cases h1 : most < 1
  · have d1 : decide (most < 1) = true := decide_eq_true h1
    clear h h1
    go_enter Try.func10, Try.ntmps10
    go_wp2_with fail
    exact bodyPost_ret (v := .tuple #[.pointer none, .int .i64 2]) (by simp [results, go_sem]) rfl ⟨rfl, rfl⟩
  · have d1 : decide (most < 1) = false := decide_eq_false h1
    have d2 : decide (most > 64) = true := decide_eq_true (by omega)
    have d3 : decide (64 < most) = true := decide_eq_true (by omega)
    clear h h1
    go_enter Try.func10, Try.ntmps10
    go_wp2_with fail
    exact bodyPost_ret (v := .tuple #[.pointer none, .int .i64 2]) (by simp [results, go_sem]) rfl ⟨rfl, rfl⟩
theorem nnum_any (k : Int) (w : World) : Calls Try.prog 11 #[.int .i64 k] w fun e w' => e = .returned (.int .i64 k) ∧ w = w' := by
  go_enter Try.func11, Try.ntmps11
  go_wp2_with fail
  go_ret
  exact ⟨rfl, rfl⟩
theorem pgood_nil {most : Int} (h : 1 ≤ most) : PGood most [] := ⟨by simp; omega, fun x hx => by simp at hx⟩
theorem pgood_send {most nx f t : Int} {bs : List Nat} {P : List GM} (h : PGood most P) (hb : bs.length ≤ 100) : PGood most (Nx.sendL most nx f t bs P) := by
  unfold Nx.sendL
  split
  · rename_i hl
    refine ⟨by simp; omega, fun x hx => ?_⟩
    rcases List.mem_append.1 hx with hx | hx
    · exact h.2 x hx
    · simp at hx; subst hx; exact hb
  · exact h
theorem pgood_cut {most i : Int} {P : List GM} (h : PGood most P) : PGood most (Nx.cutL P i) := by
  unfold Nx.cutL
  split
  · refine ⟨?_, fun x hx => ?_⟩
    · have := h.1
      rw [List.length_append, List.length_take, List.length_drop]; omega
    · rcases List.mem_append.1 hx with hx | hx
      · exact h.2 x (List.mem_of_mem_take hx)
      · exact h.2 x (List.mem_of_mem_drop hx)
  · exact h
theorem pgood_getD {most : Int} {P : List GM} (h : PGood most P) (k : Nat) : (P.getD k gm0).bs.length ≤ 100 := by
  by_cases hk : k < P.length
  · exact h.2 _ (mem_at hk)
  · rw [List.getD_eq_getElem?_getD, List.getElem?_eq_none (by omega)]; decide
theorem pgood_at {most i : Int} {P : List GM} (h : PGood most P) : (Nx.atL P i).bs.length ≤ 100 := by
  unfold Nx.atL
  split
  · exact pgood_getD h _
  · decide
theorem pgood_dbl {most i : Int} {P : List GM} (h : PGood most P) : PGood most (Nx.dblL most P i) := by
  unfold Nx.dblL
  split
  · rename_i hz
    have hl := (dblZ_yes hz).2
    refine ⟨by simp; omega, fun x hx => ?_⟩
    rcases List.mem_append.1 hx with hx | hx
    · exact h.2 x hx
    · simp only [List.mem_singleton] at hx; subst hx; exact pgood_getD h _
  · exact h
theorem pgood_sp {most i at_ xx : Int} {P : List GM} (h : PGood most P) : PGood most (Nx.spL P i at_ xx) := by
  unfold Nx.spL
  split
  · refine ⟨by rw [List.length_set]; exact h.1, fun x hx => ?_⟩
    rcases List.mem_or_eq_of_mem_set hx with hx | rfl
    · exact h.2 x hx
    · show (Dm.turned _ _ _).length ≤ 100
      rw [Dm.turned_len]; exact pgood_getD h _
  · exact h
theorem Ctx.qrx {w0 w w1 w2 : World} {b1 b2 : Nat} {most nx m2 : Int} {P P2 : List GM} {S1 S2 : Nat → Prop} (c : Ctx w0 w b1 b2 most nx P S1 S2) (h : PN w b1 most m2 P2 S1 w1) (k : PR w1 b2 most m2 P2 S2 w2) : ∃ T1 T2, Ctx w0 w2 b1 b2 most m2 P2 T1 T2 ∧ (∀ k, T1 k → S1 k ∨ w.heap.size ≤ k) ∧ (∀ k, T2 k → S2 k ∨ w.heap.size ≤ k) := by
  obtain ⟨T1, q1, s1, t1⟩ := h
  obtain ⟨T2, r2, s2, t2⟩ := k
  have hz := t1.size
  have dd : ∀ k, T1 k → ¬ S2 k := fun k h1 h2 => by
    rcases s1 k h1 with x | x
    · exact c.d k x h2
    · have := c.r.lt k h2; omega
  refine ⟨T1, T2, ⟨q1.turn t2 dd, r2, fun k h1 h2 => ?_, fun k hk => ?_, fun k hk => ?_, ?_⟩, s1, fun k hk => (s2 k hk).imp id (fun x => Nat.le_trans hz x)⟩
  · rcases s2 k h2 with x | x
    · exact dd k h1 x
    · have := q1.lt k h1; omega
  · rcases s1 k hk with x | x
    · exact c.l1 k x
    · have := c.b.size; omega
  · rcases s2 k hk with x | x
    · exact c.l2 k x
    · have := c.b.size; omega
  · exact c.b.trans ((t1.below c.l1 c.b.size).trans (t2.below c.l2 (Nat.le_trans c.b.size t1.size)))
/-- what the net was sent is written over: the nets stay -/
theorem Ctx.over {w0 w w' : World} {b1 b2 q : Nat} {most nx : Int} {P : List GM} {S1 S2 : Nat → Prop} (c : Ctx w0 w b1 b2 most nx P S1 S2) (hg : w.grownBy w' (some q)) (hq : w0.heap.size ≤ q) (h1 : ¬ S1 q) (h2 : ¬ S2 q) : Ctx w0 w' b1 b2 most nx P S1 S2 :=
  c.far (F := fun k => k = q) ⟨hg.os, hg.tape, hg.output, hg.size, fun k hk hn => hg.block k hk (fun e => hn (by injection e))⟩ (fun k hk => by rw [hk]; exact hq) (fun k hk e => h1 (by rw [← e]; exact hk)) (fun k hk e => h2 (by rw [← e]; exact hk))
theorem holdsG_one {w : World} {B : Nat} {y : GM} (h : GmIn w B y) (hb : HoldsB w y.fa y.fn y.bs) : HoldsG w (some ⟨B, 0, none⟩) 1 [y] := by
  refine ⟨rfl, fun _ => ⟨B, 0, rfl, fun i hi => ?_⟩, fun i hi => ?_⟩
  · obtain rfl : i = 0 := by omega
    exact h
  · obtain rfl : i = 0 := by omega
    exact hb
theorem RNAtP.holds {w : World} {b : Nat} {most nx : Int} {P : List GM} {S : Nat → Prop} (h : RNAtP w b most nx P S) : ∃ a c G, w.cell? ⟨b, 0, none⟩ = some (.slice a P.length c) ∧ HoldsG w a P.length G ∧ G.map npl = P := by
  obtain ⟨G, ⟨a, c, k0, -, -, -, own, fr, -⟩, hG⟩ := h
  have hl := len_npl hG
  rw [← hl]
  refine ⟨a, c, G, k0, ⟨rfl, fun h0 => ?_, fun i hi => (fr _ (mem_at hi)).1⟩, hG⟩
  obtain ⟨g, cap', hv⟩ := Joins.ownsRow_form own (by omega)
  simp only [Value.slice.injEq] at hv
  obtain ⟨rfl, -, -⟩ := hv
  refine ⟨g, 0, rfl, fun i hi => ?_⟩
  obtain ⟨v0, v1, v2, v3, v4⟩ := gmV_at G i hi
  simp only [Nat.zero_add]
  exact ⟨(own.cellAt (i * 5) (by omega)).trans v0, (own.cellAt (i * 5 + 1) (by omega)).trans v1, (own.cellAt (i * 5 + 2) (by omega)).trans v2, (own.cellAt (i * 5 + 3) (by omega)).trans v3, (own.cellAt (i * 5 + 4) (by omega)).trans v4⟩
theorem alike_maps {K G P : List GM} (h1 : K.map npl = P) (h2 : G.map npl = P) (i : Nat) : Alike (K.getD i gm0) (G.getD i gm0) := npl_alike (by rw [← getD_npl, ← getD_npl, h1, h2])
theorem maps_alike {K G P : List GM} (h1 : K.length = G.length) (h2 : ∀ i, i < G.length → Alike (K.getD i gm0) (G.getD i gm0)) (h : G.map npl = P) : K.map npl = P := by
  rw [← h]
  apply List.ext_getElem (by simp [h1])
  intro i hi1 hi2
  have hi : i < G.length := by simpa using hi2
  obtain ⟨a1, a2, a3, a4, a5⟩ := h2 i hi
  rw [List.getElem_map, List.getElem_map]
  rw [List.getD_eq_getElem?_getD, List.getElem?_eq_getElem (by omega), List.getD_eq_getElem?_getD, List.getElem?_eq_getElem hi] at a1 a2 a3 a4 a5
  unfold npl
  simp only [Option.getD_some] at a1 a2 a3 a4 a5
  rw [a1, a2, a3, a4, a5]
theorem nList_lit (r : Nat) (b : Nat) {most nx : Int} {P : List GM} {S : Nat → Prop} (w : World) (h : NAtP w b most nx P S) (hg : PGood most P) (hm : most ≤ 64) (hr : P.length = r) :
    Calls Try.prog 25 #[.pointer (some ⟨b, 0, none⟩)] w fun e w' => ∃ a c K, e = .returned (.slice a r c) ∧ K.length = r ∧ K.map npl = P ∧ GOwn w w' a c K := by
  obtain ⟨G, h, hG⟩ := h
  have hl := len_npl hG
  have hgl := hg.1
  have hfn : ∀ x ∈ G, x.fn ≤ 1000000 := by
    obtain ⟨a, c, M⟩ := h.mid
    intro x hx
    have := (M.2.2.2.2.2.1 _ hx).1.len
    have := pgood_fn hg hG _ hx
    omega
  refine (nList_any b w h (by omega) hfn).mono ?_
  rintro e w' ⟨a, c, K, rfl, h1, h2, h3⟩
  exact ⟨a, c, K, by rw [h1, hl, hr], by omega, maps_alike h1 h2 hG, h3⟩
theorem nLen_lit (r : Nat) (b : Nat) {most nx : Int} {P : List GM} {S : Nat → Prop} (w : World) (h : NAtP w b most nx P S) (hr : P.length = r) :
    Calls Try.prog 26 #[.pointer (some ⟨b, 0, none⟩)] w fun e w' => e = .returned (.int .i64 r) ∧ w = w' := by
  obtain ⟨G, h, hG⟩ := h
  rw [← hr, ← len_npl hG]
  exact nLen_any b w h
theorem gown_fn {w0 w : World} {a : Option Addr} {c : Nat} {K P : List GM} {most : Int} (h : GOwn w0 w a c K) (hg : PGood most P) (e : K.map npl = P) : ∀ x ∈ K, x.fn ≤ 1000000 := fun x hx => by
  have h1 := (h.fr x hx).1.1
  have h2 := pgood_fn hg e x hx
  rw [bytesV_length] at h1
  omega
theorem maps_bs {G P : List GM} {most : Int} (hg : PGood most P) (e : G.map npl = P) (i : Nat) : (G.getD i gm0).bs.length ≤ 1000000 := by
  have h := pgood_getD hg i
  rw [← e, getD_npl] at h
  have : (npl (G.getD i gm0)).bs.length = (G.getD i gm0).bs.length := rfl
  omega
end Go.Proofs.Ytecdigcadmokfaa
/- a copy of a slice with three marked cells of room behind it (LendBytes), and whether such a copy is as it was (KeptBytes) -/
namespace Go.Proofs.Ytecdigcadmokfaa
open Go.RowKit
set_option linter.unusedVariables false
set_option maxRecDepth 20000

theorem lendBytes_info : (Try.prog.info? 5).map (fun i => (i.zero, i.size, i.bytes)) = some (some (.int .u8 0), 1, 1) := by kernel_rfl
set_option maxHeartbeats 400000 in
theorem lendBytes_any (a : Option Addr) (n cap : Nat) (xs : List Value) (w : World) (h : HoldsV w a n xs) (hnil : a = none → n = 0 ∧ cap = 0) (hn : n ≤ 1048576) (h1 : ∀ u ∈ xs, u.oneCell' = true) :
    Calls Try.prog 12 #[.slice a n cap] w fun e w' => e = .returned (.slice (some ⟨w.heap.size, 0, none⟩) n (n + 3)) ∧ Below w.heap.size w w' ∧ Roomy w' w.heap.size 5 (.int .u8 119) n xs 3 := by
  obtain ⟨i0, hi, hz0, hz1, hz2⟩ := info_parts lendBytes_info
  obtain ⟨hl, hc⟩ := h
  have HC := Lib.hid hc; have HL := Lib.hid hl; have H1 := Lib.hid h1; have HN := Lib.hid hnil
  clear hc hl h1 hnil
  go_enter Try.func12, Try.ntmps12
  have HV : HoldsV w a n xs := ⟨HL.out, HC.out⟩
  replace HV := Lib.hid HV
  go_wp2_with (first | (at_make; refine wpList_make_own _ rfl _ _ 33 rfl w.heap.size 5 i0 (.int .u8 0) 1 Try.underlying33 hi hz0 hz1 _ _ _ (n + 3) rfl rfl (by omega) (by rw [hz2]; omega) (by unfold maxLen; omega) (Nat.le_refl _) ?_; intro w0 hown0 hgrow0) | (at_builtin; refine wpList_append_fits_any _ rfl (.tmp 10) (.tmp 11) 33 rfl w.heap.size 5 i0 1 Try.underlying33 hi hz1 w.heap.size 0 (n + 3) _ rfl hown0 a n cap xs rfl (by simpa using HL.out) HN.out (HV.out.cells hgrow0) H1.out (by omega) ?_; intro w1 hown1 hgrow1; simp only [Nat.zero_add, List.nil_append] at hown1))
  have hb0 : Below w.heap.size w w0 := below_grown hgrow0 (by intro k hk; cases hk)
  have hb1 : Below w.heap.size w w1 := hb0.grown hgrow1 hb0.size (by intro k hk; cases hk; exact Nat.le_refl _)
  have hr1 : Roomy w1 w.heap.size 5 (.int .u8 119) n xs 0 := roomy_of_own HL.out hown1
  have HB1 := Lib.hid hb1; have HR1 := Lib.hid hr1
  clear hb0 hb1 hr1 hown0 hown1 hgrow0 hgrow1
  go_loopw [5] (fun i wr => ∃ k : Nat, k ≤ 3 ∧ i = .int .i64 k ∧ Hid (Roomy wr w.heap.size 5 (.int .u8 119) n xs k) ∧ Hid (Below w.heap.size w wr)) (fun i _ => 3 - (intOf i).toNat)
  case atStart => exact ⟨0, by omega, rfl, HR1, HB1⟩
  case round =>
    obtain ⟨k, hk, rfl, hR, hB⟩ := hrel
    by_cases hlt : k < 3
    · obtain ⟨v, hv⟩ := hR.out.there (n + k) (by omega)
      have hf := hR.out.free (n + k)
      go_wp2
      go_roundw
      case rel => exact ⟨k + 1, by omega, by go_num, hR.out.put hlt, hB.out.setCell (Nat.le_refl _) _⟩
      case measure => simp [intOf]; omega
    · obtain rfl : k = 3 := by omega
      go_wp2
      go_ret
      exact ⟨rfl, hB.out, hR.out⟩
end Go.Proofs.Ytecdigcadmokfaa
/- whether a lent copy is as it was, its spare room too (KeptBytes) -/
namespace Go.Proofs.Ytecdigcadmokfaa
open Go.RowKit
set_option linter.unusedVariables false
set_option maxRecDepth 20000

set_option maxHeartbeats 400000 in
theorem keptBytes_any (B : Nat) (e : TypeId) (n : Nat) (z1 : List Int) (a : Option Addr) (n2 cap : Nat) (z2 : List Int) (w : World) (h1 : z1.length = n) (hR : Roomy w B e (.int .u8 119) n (z1.map (Value.int .u8)) 3) (h2 : HoldsI .u8 w a n2 z2) (hn : n ≤ 1048576) (hn2 : n2 ≤ 1048576) :
    Calls Try.prog 15 #[.slice (some ⟨B, 0, none⟩) n (n + 3), .slice a n2 cap] w fun e w' => e = .returned (.bool (decide (z1 = z2))) ∧ ∃ m, w' = w.drewN m := by
  have HR := Lib.hid hR; have H2 := Lib.hid h2; have H1 := Lib.hid h1
  clear hR h2 h1
  have hs : HoldsI .u8 w (some ⟨B, 0, none⟩) n z1 := ⟨H1.out, fun _ => ⟨B, 0, rfl, fun i hi => by
    rw [Nat.zero_add, HR.out.cell i hi, getD_map_int .u8 z1 i (by rw [H1.out]; exact hi)]⟩⟩
  have HS := Lib.hid hs
  clear hs
  go_enter Try.func15, Try.ntmps15
  go_wp2
  go_loop [6] (fun i => ∃ k : Nat, k ≤ 3 ∧ i = .int .i64 k) (fun i => 3 - (intOf i).toNat)
  case atStart => exact ⟨0, by omega, rfl⟩
  case round =>
    obtain ⟨k, hk, rfl⟩ := hrel
    by_cases hlt : k < 3
    · have hv := HR.out.room k hlt
      go_wp2
      go_round
      case rel => exact ⟨k + 1, by omega, by go_num⟩
      case measure => simp [intOf]; omega
    · obtain rfl : k = 3 := by omega
      go_wp2_with fail
      refine (sameBytes_any _ _ _ _ _ _ z1 z2 _ HS.out H2.out (by omega) (by omega)).mono ?_
      rintro e w' ⟨rfl, m, rfl⟩
      go_wp2_with fail
      go_ret
      exact ⟨rfl, m, rfl⟩
end Go.Proofs.Ytecdigcadmokfaa
