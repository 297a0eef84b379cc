/- messages in the document: the reader's items -/
import Derived.Test.YthboiklcjpnhbaaMe2
namespace Go.Proofs.Ythboiklcjpnhbaa
open Go.RowKit
set_option linter.unusedVariables false
set_option maxRecDepth 20000
def dItem (bs : List Nat) (n : Nat) (s : RS) : KV := (dG bs n 1 s, dTx bs n (dNum n 1 s))
def dIte (bs : List Nat) (n : Nat) (s : RS) : RS := dTe bs n (dNum n 1 s)
def dIs (bs : List Nat) (n : Nat) : Nat → RS → RS
  | 0, s => s
  | k + 1, s => dIte bs n (dIs bs n k s)
def dIl (bs : List Nat) (n : Nat) : Nat → RS → List KV
  | 0, _ => []
  | k + 1, s => dIl bs n k s ++ [dItem bs n (dIs bs n k s)]
theorem dIl_len (bs : List Nat) (n : Nat) (s : RS) : ∀ k, (dIl bs n k s).length = k
  | 0 => rfl
  | k + 1 => by simp [dIl, dIl_len bs n s k]
theorem dItem_good {bs : List Nat} {n : Nat} {s : RS} (h : s.bad = false) (h2 : (dIte bs n s).bad = false) : dItem bs n s = gItem bs n s ∧ dIte bs n s = rItem bs n s := by
  have h1 : (dNum n 1 s).bad = false := by
    cases e : (dNum n 1 s).bad
    · rfl
    · have := dTe_bad (bs := bs) (n := n) e; unfold dIte at h2; rw [this] at h2; cases h2
  have e1 := dNum_good (n := n) (s := 1) h
  constructor
  · unfold dItem gItem
    rw [dG_good h, dTx_good h1, e1]
  · unfold dIte rItem
    rw [dTe_good h1, e1]
theorem dIs_bad {bs : List Nat} {n : Nat} {s : RS} : ∀ {k}, s.bad = true → (dIs bs n k s).bad = true
  | 0, h => h
  | k + 1, h => by
    show (dTe bs n (dNum n 1 (dIs bs n k s))).bad = true
    exact dTe_bad (dNum_bad (dIs_bad h))
theorem dIs_stay {bs : List Nat} {n : Nat} {s : RS} {k : Nat} (h : (dIs bs n (k + 1) s).bad = false) : (dIs bs n k s).bad = false := by
  cases e : (dIs bs n k s).bad
  · rfl
  · have : (dIs bs n (k + 1) s).bad = true := dTe_bad (dNum_bad e)
    rw [this] at h; cases h
theorem dIs_good {bs : List Nat} {n : Nat} {s : RS} : ∀ {k}, (dIs bs n k s).bad = false → dIl bs n k s = gItems bs n k s ∧ dIs bs n k s = rItems bs n k s
  | 0, h => ⟨rfl, rfl⟩
  | k + 1, h => by
    have hk := dIs_stay h
    obtain ⟨e1, e2⟩ := dIs_good hk
    have h2 : (dIte bs n (dIs bs n k s)).bad = false := h
    obtain ⟨e3, e4⟩ := dItem_good hk h2
    exact ⟨by show dIl bs n k s ++ _ = gItems bs n k s ++ _; rw [e1, e3, e2], by show dIte bs n (dIs bs n k s) = rItem bs n (rItems bs n k s); rw [e4, e2]⟩
def DItsP (r : Nat) (a : Option Addr) (n cap : Nat) (bs : List Nat) (s : RS) (w : World) (m : Nat) (e : Ending) (w' : World) : Prop :=
  ∃ j, j ≤ m ∧ (j = m ∨ (dIs bs n j s).bad = true) ∧ ItsP r a n cap bs (dIs bs n j s) w (dIl bs n j s) j e w'
set_option maxHeartbeats 3200000 in
theorem dsItems (m : Nat) (m256 : m < 256) {r : Nat} {a : Option Addr} {n cap : Nat} {bs : List Nat} {s1 : RS} (w : World) (h : RdS r a n cap bs s1 w) :
    Calls Try.prog 80 #[.pointer (some ⟨r, 0, none⟩), .int .i64 (m : Int)] w (DItsP r a n cap bs s1 w m) := by
  obtain ⟨i0, hi, hz0, hz1, hz2⟩ := info_parts prI_info
  have LR := Lib.hid (lt_of_cell h.m.c0)
  have AL := Lib.hid (show 0 < n → ∀ q o, a = some ⟨q, o, none⟩ → q < w.heap.size from fun h0 => h.lt h0)
  have M1 := Lib.hid h
  have T1 := Lib.hid (Turn.of_below (F := fun k => k = r) (Below.refl w.heap.size w))
  clear h
  go_enter Try.func80, Try.ntmps80
  go_wp2_with fail
  go_loopw [5, 6] (fun iv cv wr => ∃ (j : Nat) (ia : Option Addr) (ic : Nat), j ≤ m ∧ iv = .slice ia j ic ∧ cv = .int .i64 (j : Int) ∧ Hid (wr.ownsRow w.heap.size 27 2 (.slice ia j ic) j (keysV (dIl bs n j s1))) ∧ Hid (RdS r a n cap bs (dIs bs n j s1) wr) ∧ Hid (Turn (fun k => k = r) w wr) ∧ Hid (ia = none → j = 0 ∧ ic = 0)) (fun _ cv _ => m - (intOf cv).toNat)
  case atStart => exact ⟨0, none, 0, by omega, rfl, rfl, Lib.hid (World.ownsRow_nil _ _ _ _), M1, T1, Lib.hid (fun _ => ⟨rfl, rfl⟩)⟩
  case round =>
    clear M1 T1
    obtain ⟨j, ia, ic, hj, rfl, rfl, hO, hM, hT, hN⟩ := hrel
    rename World => wr
    have c2 := hM.out.m.c2
    by_cases hlt : j < m
    · cases hbad : (dIs bs n j s1).bad with
      | true =>
        rw [hbad] at c2
        have FF := Lib.hid (show DItsP r a n cap bs s1 w m (.returned (.slice ia j ic)) wr from ⟨j, by omega, Or.inr hbad, ia, ic, rfl, HoldsK.own hO.out, hN.out, (owns_none hO.out).2, hO.out, hM.out, hT.out⟩)
        clear hO hM hT hN hbad
        go_wp2_with fail
        go_ret
        exact FF.out
      | false =>
      rw [hbad] at c2
      have CI := Lib.hid (dsNum 1 1 rfl (by omega) (by omega) wr hM.out)
      obtain ⟨sj, hsj⟩ : ∃ sj, dIs bs n j s1 = sj := ⟨_, rfl⟩
      rw [hsj] at CI
      have CT := Lib.hid (fun w2 (h : RdS r a n cap bs (dNum n 1 sj) w2) => dsText w2 h)
      obtain ⟨v1, hv1⟩ : ∃ v, dG bs n 1 sj = v := ⟨_, rfl⟩
      obtain ⟨v2, hv2⟩ : ∃ v, dTx bs n (dNum n 1 sj) = v := ⟨_, rfl⟩
      rw [hv1] at CI
      rw [hv2] at CT
      have GE := Lib.hid (show keysV (dIl bs n (j + 1) s1) = keysV (dIl bs n j s1) ++ [.int .i64 v1, .string v2] from by
        show keysV (dIl bs n j s1 ++ [dItem bs n (dIs bs n j s1)]) = _
        rw [keysV_app, hsj]; unfold dItem; rw [hv1, hv2]; rfl)
      have SE := Lib.hid (show dIs bs n (j + 1) s1 = dTe bs n (dNum n 1 sj) from by show dIte bs n (dIs bs n j s1) = _; rw [hsj]; rfl)
      clear hsj hv1 hv2 hbad
      go_wp2_with fail
      with_reducible refine CI.out.mono ?_
      rintro e w1 ⟨rfl, hM1, hT1⟩
      have CT1 := Lib.hid (CT.out w1 hM1)
      have T1 := Lib.hid (hT.out.trans hT1)
      have U1 := Lib.hid hT1
      clear hM1 hT1 CI CT c2 hM hT
      go_wp2_with fail
      with_reducible refine CT1.out.mono ?_
      rintro e w2 ⟨rfl, hM2, hT2⟩
      have M2 := Lib.hid hM2
      have T2 := Lib.hid (T1.out.trans hT2)
      have hTT := U1.out.trans hT2
      have O2 := Lib.hid (show w2.ownsRow w.heap.size 27 2 (.slice ia j ic) j (keysV (dIl bs n j s1)) from hO.out.kept ⟨hTT.os, hTT.tape, hTT.output, hTT.size, fun k hk hn => hTT.block k hk (fun e => hn (by rw [e]))⟩ (row := some r) (by
        rcases h : (Value.slice ia j ic).ownBlock with _ | g
        · exact Or.inl rfl
        · right; intro e; injection e with e; have := (hO.out.lt g h).1; have := LR.out; omega))
      have Z2 := Lib.hid (show w.heap.size ≤ w2.heap.size from T2.out.size)
      clear hM2 hT2 hTT CT1 hO T1 U1
      go_wp2_with (at_builtin; refine wpList_append_any rfl (.tmp 22) (.tmp 27) 30 rfl w.heap.size 27 i0 _ 2 24 Try.underlying30 hi hz0 hz1 hz2 rfl (by decide) _ j _ rfl (O2.out.alloc _) _ 1 1 [.int .i64 v1, .string v2] rfl (fun e => by cases e) rfl (two_newM rfl) (by simp [Value.oneCell']) (by unfold maxLen; omega) (by omega) (by have := Z2.out; simp; omega) ?_; intro a3 c3 w3 hown3 hb3 hnil3)
      have O3 := Lib.hid (show w3.ownsRow w.heap.size 27 2 (.slice a3 (j + 1) c3) (j + 1) (keysV (dIl bs n (j + 1) s1)) from by rw [GE.out]; exact hown3)
      have B3 := Lib.hid (show Below w.heap.size w2 w3 from ((below_one w2 _).mono Z2.out).trans hb3)
      have M3 := Lib.hid (show RdS r a n cap bs (dIs bs n (j + 1) s1) w3 from by rw [SE.out]; exact M2.out.old B3.out Z2.out LR.out AL.out)
      have T3 := Lib.hid (show Turn (fun k => k = r) w w3 from T2.out.trans' (G := fun k => w.heap.size ≤ k) ⟨B3.out.os, B3.out.tape, B3.out.output, B3.out.size, fun k _ hn => B3.out.block k (by omega)⟩ (fun i hi => Or.inr hi))
      have N3 := Lib.hid hnil3
      clear hown3 hb3 hnil3
      go_wp2_with fail
      go_roundw
      case rel => exact ⟨j + 1, a3, c3, by omega, rfl, by go_num, O3, M3, T3, Lib.hid (fun e => N3.out e)⟩
      case measure => simp [intOf] <;> omega
    · obtain rfl : j = m := by omega
      have FF := Lib.hid (show DItsP r a n cap bs s1 w j (.returned (.slice ia j ic)) wr from ⟨j, by omega, Or.inl rfl, ia, ic, rfl, HoldsK.own hO.out, hN.out, (owns_none hO.out).2, hO.out, hM.out, hT.out⟩)
      clear hO hM hT hN
      go_wp2_with fail
      go_ret
      exact FF.out
end Go.Proofs.Ythboiklcjpnhbaa
