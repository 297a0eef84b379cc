/- slots: the document's own -/
import Derived.Test.YtfmeppfhckahnaaSl3
import Derived.Test.YtfmeppfhckahnaaMay2
import Derived.Laws.OwnMore
namespace Go.Proofs.Ytfmeppfhckahnaa
open Go.RowKit
set_option linter.unusedVariables false
/-- the document's slots: in block b, the list in bl -/
structure RlAt (w : World) (b bl : Nat) (s : Sl) : Prop where
  c0 : w.cell? ⟨b, 0, none⟩ = some (.slice (some ⟨bl, 0, none⟩) s.n s.n)
  c1 : w.cell? ⟨b, 1, none⟩ = some (.int .i64 s.last)
  cl : ∀ i, i < s.n → w.cell? ⟨bl, i, none⟩ = some (.int .i64 (s.L i))
  fr : ∀ i, w.frozen? ⟨b, i, none⟩ = false
  fl : ∀ i, w.frozen? ⟨bl, i, none⟩ = false
  ne : b ≠ bl
  n1 : 1 ≤ s.n
def rlF (b bl : Nat) (k : Nat) : Prop := k = b ∨ k = bl
theorem RlAt.lt {w : World} {b bl : Nat} {s : Sl} (h : RlAt w b bl s) : b < w.heap.size ∧ bl < w.heap.size := ⟨lt_of_cell h.c0, lt_of_cell (h.cl 0 (by have := h.n1; omega))⟩
theorem RlAt.block {w w' : World} {b bl : Nat} {s : Sl} (h : RlAt w b bl s) (e : ∀ k, rlF b bl k → w'.heap[k]? = w.heap[k]?) : RlAt w' b bl s := by
  have hc : ∀ i, w'.cell? ⟨b, i, none⟩ = w.cell? ⟨b, i, none⟩ := fun i => World.cell?_of_block (w := w) (e b (Or.inl rfl))
  have hd : ∀ i, w'.cell? ⟨bl, i, none⟩ = w.cell? ⟨bl, i, none⟩ := fun i => World.cell?_of_block (w := w) (e bl (Or.inr rfl))
  exact ⟨by rw [hc]; exact h.c0, by rw [hc]; exact h.c1, fun i hi => by rw [hd]; exact h.cl i hi, fun i => by rw [World.frozen?_of_block (w := w) (e b (Or.inl rfl))]; exact h.fr i, fun i => by rw [World.frozen?_of_block (w := w) (e bl (Or.inr rfl))]; exact h.fl i, h.ne, h.n1⟩
theorem RlAt.turn {w w' : World} {b bl : Nat} {s : Sl} {F : Nat → Prop} (h : RlAt w b bl s) (t : Turn F w w') (hF : ∀ k, rlF b bl k → ¬ F k) : RlAt w' b bl s := by
  have hl := h.lt
  refine h.block fun k hk => t.block k ?_ (hF k hk)
  rcases hk with rfl | rfl
  · exact hl.1
  · exact hl.2
theorem RlAt.below {w w' : World} {b bl : Nat} {s : Sl} (h : RlAt w b bl s) (t : Below w.heap.size w w') : RlAt w' b bl s :=
  h.turn (Turn.of_below (F := fun _ => False) t) (fun _ _ x => x)
theorem RlAt.setL {w : World} {b bl : Nat} {s : Sl} (h : RlAt w b bl s) (i : Nat) (v : Int) (hi : i < s.n) : RlAt (w.setCell ⟨bl, i, none⟩ (.int .i64 v)) b bl { s with L := upd s.L i v } := by
  have ne := h.ne.symm
  refine ⟨by rw [cset_far ne]; exact h.c0, by rw [cset_far ne]; exact h.c1, fun j hj => ?_, fun j => by rw [fset_any]; exact h.fr j, fun j => by rw [fset_any]; exact h.fl j, h.ne, h.n1⟩
  show (w.setCell ⟨bl, i, none⟩ (.int .i64 v)).cell? ⟨bl, j, none⟩ = some (Value.int .i64 (upd s.L i v j))
  by_cases e : j = i
  · subst e; rw [upd_at]; exact cset_at (h.cl j hj)
  · rw [upd_ne _ _ _ _ e, cset_ne (fun x => e x.symm)]; exact h.cl j hj
theorem RlAt.setLast {w : World} {b bl : Nat} {s : Sl} (h : RlAt w b bl s) (v : Int) : RlAt (w.setCell ⟨b, 1, none⟩ (.int .i64 v)) b bl { s with last := v } := by
  refine ⟨by rw [cset_ne (by omega)]; exact h.c0, cset_at h.c1, fun j hj => by rw [cset_far h.ne]; exact h.cl j hj, fun j => by rw [fset_any]; exact h.fr j, fun j => by rw [fset_any]; exact h.fl j, h.ne, h.n1⟩
theorem rNew_bad (n : Int) (w : World) (h : ¬ (1 ≤ n ∧ n ≤ 4)) :
    Calls Try.prog 10 #[.int .i64 n] w fun e w' => e = .returned (.tuple #[.pointer none, .int .i64 2]) ∧ w = w' := by
  by_cases h1 : n < 1
  · go_enter Try.func10, Try.ntmps10
    go_wp2_with fail
    go_ret2
    exact ⟨rfl, rfl⟩
  · have h2 : 4 < n := by omega
    go_enter Try.func10, Try.ntmps10
    go_wp2_with fail
    go_ret2
    exact ⟨rfl, rfl⟩
theorem int_info : (Try.prog.info? 3).map (fun i => (i.zero, i.size, i.bytes)) = some (some (.int .i64 0), 1, 8) := by kernel_rfl
theorem rNew_good (n : Nat) (w : World) (h1 : 1 ≤ n) (h4 : n ≤ 4) :
    Calls Try.prog 10 #[.int .i64 n] w fun e w' => ∃ b bl, e = .returned (.tuple #[.pointer (some ⟨b, 0, none⟩), .int .i64 0]) ∧ RlAt w' b bl (newSl n) ∧ (∀ k, rlF b bl k → w.heap.size ≤ k) ∧ Below w.heap.size w w' := by
  obtain ⟨i0, hi, hz0, hz1, hz2⟩ := info_parts int_info
  go_enter Try.func10, Try.ntmps10
  go_wp2_with (at_make; refine wpList_make_full _ rfl _ _ 42 rfl w.heap.size 3 i0 (.int .i64 0) 1 Try.underlying42 hi hz0 hz1 _ _ _ _ n rfl rfl (by omega) (by omega) (by rw [hz2]; omega) (by unfold maxLen; omega) (Nat.le_refl _) ?_; intro w0 hown0 hgrow0)
  have hB0 := Lib.hid (below_grown hgrow0 (by intro k hk; cases hk))
  have hc : ∀ i, i < n → w0.cell? ⟨w.heap.size, i, none⟩ = some (.int .i64 0) := fun i hi => by
    have e : (madeCells (Value.int .i64 0).cells (n * 1)).toList = List.replicate n (Value.int .i64 0) := by rw [Nat.mul_one]; exact toList_madeCells_one _ n
    rw [hown0.cellAt i (by omega), e, List.getElem?_replicate, if_pos (by omega)]
  have hf : ∀ i, w0.frozen? ⟨w.heap.size, i, none⟩ = false := fun i => hown0.frozenAt i
  have HC := Lib.hid hc; have HF := Lib.hid hf
  have hlt : w.heap.size < w0.heap.size := lt_of_cell (hc 0 (by omega))
  clear hown0 hgrow0 hc hf
  go_wp2_with fail
  go_ret2
  have hb1 := below_one w0 (.cells #[.slice (some ⟨w.heap.size, 0, none⟩) n n, .int .i64 0] 44)
  have hs := hB0.out.size
  refine ⟨w0.heap.size, w.heap.size, rfl, ⟨by rw [cell_alloc rfl]; rfl, by rw [cell_alloc rfl]; rfl, fun i hi => by rw [hb1.cell (p := ⟨w.heap.size, i, none⟩) hlt]; exact HC.out i hi, fun i => frozen_alloc rfl, fun i => by rw [hb1.frozen (p := ⟨w.heap.size, i, none⟩) hlt]; exact HF.out i, by omega, h1⟩, fun k hk => ?_, hB0.out.trans (hb1.mono hs)⟩
  rcases hk with rfl | rfl <;> omega
theorem rOf_any {s : Sl} (b bl : Nat) (z : Int) (x : Option Nat) (w : World) (h : RlAt w b bl s) (hg : SlGood s) (hx : SlotOf s z x) :
    Calls Try.prog 17 #[.pointer (some ⟨b, 0, none⟩), .int .i64 z] w fun e w' => e = .returned (.tuple #[.int .i64 ((oint x).getD 0), .bool x.isSome]) ∧ w = w' := by
  have c0 := h.c0
  have hn4 := hg.n4
  by_cases hz : 0 < z
  case neg =>
    obtain rfl : x = none := by
      cases x with
      | none => rfl
      | some i => exact absurd hx.2.2 hz
    have H := Lib.hid h
    have hn1 := h.n1
    clear h hx
    go_enter Try.func17, Try.ntmps17
    go_wp2_with fail
    go_loop [6] (fun c => c = .int .i64 0) (fun _ => 0)
    case atStart => exact rfl
    case round =>
      subst hrel
      go_wp2_with fail
      go_ret2
      exact ⟨rfl, rfl⟩
  have hcl := h.cl
  have H := Lib.hid h; have HG := Lib.hid hg
  clear h hg
  -- the first that has it
  cases x with
  | none =>
    have hne : ∀ i, i < s.n → s.L i ≠ z := by
      rcases hx with hx | hx
      · omega
      · exact hx
    have HN := Lib.hid hne; have HC := Lib.hid hcl
    clear hx hne hcl
    go_enter Try.func17, Try.ntmps17
    go_wp2_with fail
    go_loop [6] (fun c => ∃ i : Nat, i ≤ s.n ∧ c = .int .i64 i) (fun c => s.n - (intOf c).toNat)
    case atStart => exact ⟨0, by omega, rfl⟩
    case round =>
      obtain ⟨i, hi, rfl⟩ := hrel
      by_cases hin : i < s.n
      · have hc := HC.out i hin
        have hf := HN.out i hin
        have hf2 : (s.L i == z) = false := by simpa using hf
        go_wp2_with fail
        go_round
        case rel => exact ⟨i + 1, by omega, by go_num⟩
        case measure => simp [intOf]; omega
      · go_wp2_with fail
        go_ret2
        exact ⟨rfl, rfl⟩
  | some j =>
    obtain ⟨h1, h2, h3⟩ := hx
    have HC := Lib.hid hcl
    clear hcl
    have hap : ∀ i, i < j → s.L i ≠ z := fun i hi e => by
      have := HG.out.apart i j (by omega) (by omega)
      omega
    have HN := Lib.hid hap
    have H2 := Lib.hid h2
    clear hap h2
    go_enter Try.func17, Try.ntmps17
    go_wp2_with fail
    go_loop [6] (fun c => ∃ i : Nat, i ≤ j ∧ c = .int .i64 i) (fun c => j + 1 - (intOf c).toNat)
    case atStart => exact ⟨0, by omega, rfl⟩
    case round =>
      obtain ⟨i, hi, rfl⟩ := hrel
      have hc := HC.out i (by omega)
      have hin : i < s.n := by omega
      by_cases hij : i < j
      · have hf := HN.out i hij
        have hf2 : (s.L i == z) = false := by simpa using hf
        go_wp2_with fail
        go_round
        case rel => exact ⟨i + 1, by omega, by go_num⟩
        case measure => simp [intOf]; omega
      · obtain rfl : i = j := by omega
        have hf2 : (s.L i == z) = true := by simpa using H2.out
        go_wp2_with fail
        go_ret2
        exact ⟨rfl, rfl⟩
theorem rFree_any {s : Sl} (b bl : Nat) (z : Int) (x : Option Nat) (w : World) (h : RlAt w b bl s) (hg : SlGood s) (hx : SlotOf s z x) :
    Calls Try.prog 13 #[.pointer (some ⟨b, 0, none⟩), .int .i64 z] w fun e w' => e = .returned (.bool x.isSome) ∧ RlAt w' b bl (freeS s x) ∧ Turn (rlF b bl) w w' := by
  have c0 := h.c0
  have hn4 := hg.n4
  cases x with
  | none =>
    have H := Lib.hid h; have HX := Lib.hid hx; have HG := Lib.hid hg
    clear h hx hg
    go_enter Try.func13, Try.ntmps13
    go_wp2_with fail
    refine (rOf_any b bl z none _ H.out HG.out HX.out).mono ?_
    rintro e w' ⟨rfl, rfl⟩
    go_wp2_with fail
    go_ret
    exact ⟨rfl, H.out, Turn.refl _ _⟩
  | some i =>
    have hi : i < s.n := hx.1
    have hci := h.cl i hi
    have hfl := h.fl
    have oi : (oint (some i)).getD 0 = (i : Int) := rfl
    have H := Lib.hid h; have HX := Lib.hid hx; have HG := Lib.hid hg
    clear h hx hg
    go_enter Try.func13, Try.ntmps13
    go_wp2_with fail
    refine (rOf_any b bl z (some i) _ H.out HG.out HX.out).mono ?_
    rintro e w' ⟨rfl, rfl⟩
    go_wp2_with fail
    go_ret
    exact ⟨rfl, H.out.setL i 0 hi, Turn.setCell (Or.inr rfl)⟩
theorem rCount_any {s : Sl} (b bl : Nat) (w : World) (h : RlAt w b bl s) (hg : SlGood s) :
    Calls Try.prog 20 #[.pointer (some ⟨b, 0, none⟩)] w fun e w' => e = .returned (.int .i64 (taken s)) ∧ w = w' := by
  have c0 := h.c0
  have hn4 := hg.n4
  have hcl := h.cl
  have HC := Lib.hid hcl; have H := Lib.hid h
  clear h hcl
  go_enter Try.func20, Try.ntmps20
  go_wp2_with fail
  go_loop [3, 4] (fun m c => ∃ i : Nat, i ≤ s.n ∧ m = .int .i64 (cnt s.L i) ∧ c = .int .i64 i) (fun _ c => s.n - (intOf c).toNat)
  case atStart => exact ⟨0, by omega, rfl, rfl⟩
  case round =>
    obtain ⟨i, hi, rfl, rfl⟩ := hrel
    have hle := cnt_le s.L i
    by_cases hin : i < s.n
    · have hc := HC.out i hin
      by_cases hp : 0 < s.L i
      · have hs : cnt s.L (i + 1) = cnt s.L i + 1 := by simp [cnt, hp]
        have HS := Lib.hid hs
        clear hs
        go_wp2_with fail
        go_round
        case rel => exact ⟨i + 1, by omega, by rw [HS.out]; go_num, by go_num⟩
        case measure => simp [intOf]; omega
      · have hs : cnt s.L (i + 1) = cnt s.L i := by simp [cnt, hp]
        have HS := Lib.hid hs
        clear hs
        go_wp2_with fail
        go_round
        case rel => exact ⟨i + 1, by omega, by rw [HS.out], by go_num⟩
        case measure => simp [intOf]; omega
    · obtain rfl : i = s.n := by omega
      go_wp2_with fail
      go_ret
      exact ⟨rfl, rfl⟩
theorem rSubmit_no {s : Sl} (b bl : Nat) (t : ByteArray) (k n : Int) (w : World) (h : RlAt w b bl s) (ht : t.size ≤ 1048576) (hno : decide (mayP t k n) = false) :
    Calls Try.prog 15 #[.pointer (some ⟨b, 0, none⟩), .agg #[.string t, .int .i64 k, .int .i64 n]] w fun e w' => e = .returned (.tuple #[.int .i64 1, .int .i64 0, .int .i64 0]) ∧ Below w.heap.size w w' := by
  have M := Lib.hid (fun w => rmay_any t k n w ht)
  rw [hno] at M
  have H := Lib.hid h
  clear h hno
  go_enter Try.func15, Try.ntmps15
  go_wp2_with fail
  refine (M.out _).mono ?_
  rintro e w' ⟨rfl, hb⟩
  go_wp2_with fail
  go_ret3
  exact ⟨rfl, (below_one _ _).trans (hb.mono (by simp))⟩
set_option maxHeartbeats 1600000 in
theorem rSubmit_may {s : Sl} (b bl j : Nat) (t : ByteArray) (k n : Int) (w : World) (h : RlAt w b bl s) (hg : SlGood s) (hj : FirstFree s j) (hlast : s.last < 4611686018427387904) (ht : t.size ≤ 1048576) (hyes : decide (mayP t k n) = true) :
    Calls Try.prog 15 #[.pointer (some ⟨b, 0, none⟩), .agg #[.string t, .int .i64 k, .int .i64 n]] w fun e w' => e = .returned (.tuple #[.int .i64 (subV true s j), .int .i64 (subN true s j), .int .i64 (subI true s j)]) ∧ RlAt w' b bl (subS true s j) ∧ Turn (rlF b bl) w w' := by
  have M := Lib.hid (fun w => rmay_any t k n w ht)
  rw [hyes] at M
  have H := Lib.hid h; have HJ := Lib.hid hj; have HG := Lib.hid hg
  have hjn := hj.1
  have hn4 := hg.n4
  have hlo := hg.lo
  clear h hyes hj hg
  go_enter Try.func15, Try.ntmps15
  go_wp2_with fail
  refine (M.out _).mono ?_
  rintro e w1 ⟨rfl, hb⟩
  have hB := Lib.hid ((below_one w (.cells #[.string t, .int .i64 k, .int .i64 n] 34)).trans (hb.mono (by simp)))
  have H1 := Lib.hid (H.out.below hB.out)
  clear hb
  have c0 := H1.out.c0; have c1 := H1.out.c1; have fr := H1.out.fr; have fl := H1.out.fl
  have hcl := H1.out.cl
  have HC := Lib.hid hcl
  clear hcl
  go_wp2_with fail
  go_loop [7] (fun c => ∃ i : Nat, i ≤ j ∧ c = .int .i64 i) (fun c => j + 1 - (intOf c).toNat)
  case atStart => exact ⟨0, by omega, rfl⟩
  case round =>
    obtain ⟨i, hi, rfl⟩ := hrel
    by_cases hij : i < j
    · have hL := (HJ.out.2.1 i hij)
      have hc := HC.out i (by omega)
      have hf2 : (s.L i == 0) = false := by simpa using hL
      have hin : i < s.n := by omega
      go_wp2_with fail
      go_round
      case rel => exact ⟨i + 1, by omega, by go_num⟩
      case measure => simp [intOf]; omega
    · obtain rfl : i = j := by omega
      by_cases hin : i < s.n
      · have h0 := HJ.out.2.2 hin
        have hc := HC.out i hin
        rw [h0] at hc
        have hlt := H1.out.lt
        have hne := H1.out.ne
        obtain ⟨w2, hw2⟩ : ∃ w2, w2 = w1.setCell ⟨b, 1, none⟩ (.int .i64 (s.last + 1)) := ⟨_, rfl⟩
        have R2 := Lib.hid (show RlAt w2 b bl { s with last := s.last + 1 } from hw2 ▸ H1.out.setLast (s.last + 1))
        have k1 := R2.out.c1
        have k0 := R2.out.c0
        have kc := R2.out.cl i hin
        have kf := R2.out.fl
        have k3 := cset_far (w := w2) (b := bl) (c := b) (o := i) (p := 1) (v := .int .i64 (s.last + 1)) hne.symm
        have k4 := cset_far (w := w2) (b := bl) (c := b) (o := i) (p := 0) (v := .int .i64 (s.last + 1)) hne.symm
        have HW := Lib.hid hw2
        go_wp2_with fail
        rw [← hw2]
        clear hw2
        go_region_held3 (fun w' => w'.cell? ⟨b, 0, none⟩ = some (.slice (some ⟨bl, 0, none⟩) s.n s.n) ∧ w'.cell? ⟨b, 1, none⟩ = some (.int .i64 (s.last + 1))) (go_keep) (fail)
        go_wp2_with fail
        go_quiet (fail)
        go_wp2_with fail
        go_ret3
        have R3 := R2.out.setL i (s.last + 1) hin
        unfold subV subN subI subS
        rw [if_pos rfl, if_pos hin, if_pos ⟨rfl, hin⟩, if_pos ⟨rfl, hin⟩, if_pos ⟨rfl, hin⟩]
        have T2 : Turn (rlF b bl) w1 w2 := HW.out ▸ Turn.setCell (Or.inl rfl)
        have T3 : Turn (rlF b bl) w2 (w2.setCell ⟨bl, i, none⟩ (.int .i64 (s.last + 1))) := Turn.setCell (Or.inr rfl)
        exact ⟨rfl, R3.block fun _ _ => rfl, ((((Turn.of_below hB.out).trans T2).trans T3).drew).trans (Turn.drewN _ _ _)⟩
      · go_wp2_with fail
        go_ret3
        unfold subV subN subI subS
        rw [if_pos rfl, if_neg hin, if_neg (fun x => hin x.2), if_neg (fun x => hin x.2), if_neg (fun x => hin x.2)]
        exact ⟨rfl, H1.out, Turn.of_below hB.out⟩
theorem rSubmit_any {s : Sl} (b bl j : Nat) (t : ByteArray) (k n : Int) (w : World) (h : RlAt w b bl s) (hg : SlGood s) (hj : FirstFree s j) (hlast : s.last < 4611686018427387904) (ht : t.size ≤ 1048576) :
    Calls Try.prog 15 #[.pointer (some ⟨b, 0, none⟩), .agg #[.string t, .int .i64 k, .int .i64 n]] w fun e w' => e = .returned (.tuple #[.int .i64 (subV (decide (mayP t k n)) s j), .int .i64 (subN (decide (mayP t k n)) s j), .int .i64 (subI (decide (mayP t k n)) s j)]) ∧ RlAt w' b bl (subS (decide (mayP t k n)) s j) ∧ Turn (rlF b bl) w w' := by
  by_cases hm : mayP t k n
  · rw [decide_eq_true hm]; exact rSubmit_may b bl j t k n w h hg hj hlast ht (decide_eq_true hm)
  · rw [decide_eq_false hm]
    refine (rSubmit_no b bl t k n w h ht (decide_eq_false hm)).mono ?_
    rintro e w' ⟨rfl, hb⟩
    exact ⟨rfl, h.below hb, Turn.of_below hb⟩
end Go.Proofs.Ytfmeppfhckahnaa
