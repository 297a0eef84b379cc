/- texts joined -/
import Derived.Test.YthboiklcjpnhbaaPkE
import Derived.Test.YthboiklcjpnhbaaPkC
import Derived.Test.YthboiklcjpnhbaaPkA
import Derived.Test.YthboiklcjpnhbaaPkB
import Derived.Test.YthboiklcjpnhbaaChecked
import Derived.WalkLawsBesides
import Derived.WalkSpells
import Derived.Outline
/- messages in the document: Encode (by gen/md7.py) -/
namespace Go.Proofs.Ythboiklcjpnhbaa
open Go.RowKit
set_option linter.unusedVariables false
set_option maxRecDepth 20000
set_option maxRecDepth 100000
theorem heap_keep {w w' : World} {p : Nat} {o : Obj} (h : w.heap[p]? = some o) (hb : Below w.heap.size w w') : w'.heap[p]? = some o := (hb.block p (Array.getElem?_eq_some_iff.1 h).1).trans h
theorem heap_cell0 {w : World} {p : Nat} {v : Value} {cs : Array Value} {t : TypeId} {fr : Nat × Nat} (h : w.heap[p]? = some (.cells cs t fr)) (h0 : cs[0]? = some v) : w.cell? ⟨p, 0, none⟩ = some v := by
  simp [World.cell?, h, h0]
theorem e4_carry {w0 w w' : World} {p : Nat} {u : Value} (h : Below w0.heap.size w0 w ∧ w.cell? ⟨p, 0, none⟩ = some u) (hb : Below w.heap.size w w') : Below w0.heap.size w0 w' ∧ w'.cell? ⟨p, 0, none⟩ = some u := ⟨h.1.trans (hb.mono h.1.size), cellD h.2 hb⟩
set_option maxHeartbeats 12800000 in
theorem dEncode_yes (kd : Nat) (kv : Int) (hkv : kv = (kd : Int)) (c1 c2 c3 c4 c5 c6 c7 c8 c9 c10 c11 c12 c13 c14 c15 c16 c17 c18 c19 c20 c21 c22 c23 c24 c25 c26 : Value) (o : List Nat) (m : Nat) (w : World) (CM : ∀ w', Below w.heap.size w w' → Calls Try.prog 20 #[.agg #[.int .i64 kv, c1, c2, c3, c4, c5, c6, c7, c8, c9, c10, c11, c12, c13, c14, c15, c16, c17, c18, c19, c20, c21, c22, c23, c24, c25, c26]] w' fun e w'' => e = .returned (.bool true) ∧ Below w'.heap.size w' w'') (CB : ∀ w', Below w.heap.size w w' → Calls Try.prog 36 #[.agg #[.int .i64 kv, c1, c2, c3, c4, c5, c6, c7, c8, c9, c10, c11, c12, c13, c14, c15, c16, c17, c18, c19, c20, c21, c22, c23, c24, c25, c26]] w' (RBB w' w' o m)) (hm : m ≤ 100000) (hkd : kd ≤ 5) (ol : o.length = m) :
    Calls Try.prog 15 #[.agg #[.int .i64 kv, c1, c2, c3, c4, c5, c6, c7, c8, c9, c10, c11, c12, c13, c14, c15, c16, c17, c18, c19, c20, c21, c22, c23, c24, c25, c26]] w (EncP w (frameB kd o) (frameB kd o).length) := by
  obtain ⟨i0, hi, hz0, hz1, hz2⟩ := info_parts u8_info
  have C1 := Lib.hid CM; have C2 := Lib.hid CB
  have OL := Lib.hid ol
  have e7 : (m : Int) + (7 : Int) = ((7 + m : Nat) : Int) := by omega
  have w7 : IntKind.i64.wrap ((7 + m : Nat) : Int) = ((7 + m : Nat) : Int) := IntWalk.i64_in _ (by omega)
  obtain ⟨l7, hl7⟩ : ∃ l, 7 + m = l := ⟨_, rfl⟩
  rw [hl7] at e7 w7
  obtain ⟨h1, hh1⟩ : ∃ h, Cod.bytesOf l7 2 = h := ⟨_, rfl⟩
  obtain ⟨h2, hh2⟩ : ∃ h, h1 ++ Cod.bytesOf kd 1 = h := ⟨_, rfl⟩
  have len1 : h1.length = 2 := by rw [← hh1, Cod.bytesOf_length]
  have len2 : h2.length = 3 := by rw [← hh2, List.length_append, len1, Cod.bytesOf_length]
  have lt1 : ∀ b ∈ h1, b < 256 := by rw [← hh1]; exact Cod.bytesOf_lt _ _
  have lt2 : ∀ b ∈ h2, b < 256 := by
    rw [← hh2]; intro b hb
    rcases List.mem_append.1 hb with hb | hb
    · exact lt1 b hb
    · exact Cod.bytesOf_lt _ _ b hb
  have CP1 := Lib.hid (fun w' => (show Calls Try.prog 37 #[.slice none 0 0, .int .i64 (l7 : Int), .int .i64 2] w' fun e w'' => ∃ a c, e = .returned (.slice a 2 c) ∧ HoldsB w'' a 2 h1 ∧ (a = none → False) ∧ Below w'.heap.size w' w'' from by
    refine (rput_any none 0 0 [] (l7 : Int) 2 w' (holdsB_nil _ _) (fun _ => ⟨rfl, rfl⟩) (by omega)).mono ?_
    rintro e w'' ⟨a, c, rfl, r1, r2, r3⟩
    rw [bits_nat9 l7 (by omega), show sizeV 2 = 2 from rfl, List.nil_append, hh1, len1] at r1 r3
    rw [bits_nat9 l7 (by omega), show sizeV 2 = 2 from rfl, List.nil_append, hh1, len1]
    exact ⟨a, c, rfl, holdsB_of_values (owns_holds r1) lt1, fun e => by have := (r3 e).1; omega, r2⟩))
  have CP2 := Lib.hid (fun (w5 : World) (a : Option Addr) (c : Nat) w' (h5 : w5.heap.size ≤ w'.heap.size) (hb : HoldsB w' a 2 h1) (hn : a = none → False) => (show Calls Try.prog 37 #[.slice a 2 c, .int .i64 kv, .int .i64 1] w' fun e w'' => ∃ a c, e = .returned (.slice a 3 c) ∧ w''.ownsRow w5.heap.size 5 1 (.slice a 3 c) 3 (bytesV h2) ∧ Below w'.heap.size w' w'' from by
    rw [hkv]
    refine (rput_any a 2 c h1 (kd : Int) 1 w' hb (fun e => (hn e).elim) (by omega)).mono ?_
    rintro e w'' ⟨a, c, rfl, r1, r2, r3⟩
    rw [bits_nat9 kd (by omega), show sizeV 1 = 1 from rfl, hh2, len2] at r1
    rw [bits_nat9 kd (by omega), show sizeV 1 = 1 from rfl, hh2, len2]
    exact ⟨a, c, rfl, own_lower r1 h5, r2⟩))
  have FE := Lib.hid (show frameB kd o = sealB (h2 ++ o) from by unfold frameB; rw [← hh2, ← hh1, ← hl7, ol])
  have LT2 := Lib.hid lt2; have LE2 := Lib.hid len2
  have bl2 : (bytesV h2).length = 3 := by rw [bytesV_length, len2]
  have lm : l7 ≤ 100007 := by omega
  rw [FE.out]
  obtain ⟨w3, hw3⟩ : ∃ w3, w.alloc (.cells #[.int .i64 kv, c1, c2, c3, c4, c5, c6, c7, c8, c9, c10, c11, c12, c13, c14, c15, c16, c17, c18, c19, c20, c21, c22, c23, c24, c25, c26] 46) = w3 := ⟨_, rfl⟩
  have BX := Lib.hid (show Below w.heap.size w w3 from hw3 ▸ below_one w _)
  have XI := Lib.hid (show w3.heap[w.heap.size]? = some (.cells #[.int .i64 kv, c1, c2, c3, c4, c5, c6, c7, c8, c9, c10, c11, c12, c13, c14, c15, c16, c17, c18, c19, c20, c21, c22, c23, c24, c25, c26] 46 (0, 0)) from hw3 ▸ heap_alloc_new w _)
  clear CM CB ol hl7 hh1 hh2 len1 len2 lt1 lt2 hkv
  go_enter Try.func15, Try.ntmps15
  go_upto_region 1 with fail
  try rw [hw3]
  clear hw3
  obtain ⟨p, hp⟩ : ∃ p, w.heap.size = p := ⟨_, rfl⟩
  rw [hp] at XI
  try simp only [hp]
  clear hp
  have D1 := Lib.hid (C1.out w3 BX.out)
  clear C1
  go_wp2_with (first | (refine wpList_load_row rfl 46 (.tmp 1) rfl p rfl 46 #[.int .i64 kv, c1, c2, c3, c4, c5, c6, c7, c8, c9, c10, c11, c12, c13, c14, c15, c16, c17, c18, c19, c20, c21, c22, c23, c24, c25, c26] (0, 0) _ XI.out Try.underlying46 rfl (by kernel_rfl) ?_) | fail)
  with_reducible refine D1.out.mono ?_
  rintro e w4 ⟨rfl, hb⟩
  have X4 := Lib.hid (heap_keep XI.out hb)
  have B4 := Lib.hid (BX.out.trans (hb.mono BX.out.size))
  have D2 := Lib.hid (C2.out w4 B4.out)
  clear hb D1 C2
  go_wp2_with (first | (refine wpList_load_row rfl 46 (.tmp 1) rfl p rfl 46 #[.int .i64 kv, c1, c2, c3, c4, c5, c6, c7, c8, c9, c10, c11, c12, c13, c14, c15, c16, c17, c18, c19, c20, c21, c22, c23, c24, c25, c26] (0, 0) _ X4.out Try.underlying46 rfl (by kernel_rfl) ?_) | fail)
  with_reducible refine D2.out.mono ?_
  rintro e w5 ⟨a1, d1, rfl, hl1, hB1, hW1⟩
  have x50 := heap_cell0 (heap_keep X4.out hW1) rfl
  have B1 := Lib.hid hB1; have W1 := Lib.hid (B4.out.trans (hW1.mono B4.out.size))
  have TD := Lib.hid (show Below w5.heap.size w5 w5.drew ∧ w5.drew.cell? ⟨p, 0, none⟩ = some (.int .i64 kv) from ⟨(Below.refl _ _).drew, x50⟩)
  clear hl1 hB1 hW1 D2 x50
  go_upto_region 4 with fail
  go_region_held3 (fun w' => Below w5.heap.size w5 w' ∧ w'.cell? ⟨p, 0, none⟩ = some (.int .i64 kv))
    (first | assumption | exact TD.out | exact e4_carry (by assumption) (by assumption))
    (first
      | (go_at_call 37; (with_reducible refine (CP1.out _).mono ?_); rintro e w' ⟨a2, d2, rfl, hh2, hne2, hb2⟩)
      | (go_at_call 37; (with_reducible refine (CP2.out w5 _ _ _ (Below.size (And.left (by assumption))) (by first | assumption | exact HoldsB.below (by assumption) (by assumption)) (by assumption)).mono ?_); rintro e w' ⟨a3, d3, rfl, ho3, hb3⟩)
      | fail)
  all_goals
    have hS : Below w5.heap.size w5 w' ∧ w'.cell? ⟨p, 0, none⟩ = some (.int .i64 kv) := by assumption
    have O3 := Lib.hid ho3; have B3 := Lib.hid (B1.out.more hS.1); have W3 := Lib.hid (W1.out.trans (hS.1.mono W1.out.size))
    have Z3 := Lib.hid hS.1.size
    have HV := Lib.hid (B3.out.h.values.cells (w' := w') ⟨rfl, rfl, rfl, Nat.le_refl _, fun _ _ _ => rfl⟩)
    have BN := Lib.hid (show a1 = none → m = 0 ∧ d1 = 0 from fun e => by rw [← OL.out]; exact B3.out.n e)
    have BL := Lib.hid (show (bytesV o).length = m * 1 from by rw [bytesV_length, OL.out]; omega)
    have LTO := Lib.hid B3.out.lt
    clear hS ho3 hb3 hh2 hne2 hb2 CP1 CP2 TD
    go_wp2_with (at_builtin; refine wpList_append_any rfl (.tmp 18) (.tmp 19) 39 rfl w5.heap.size 5 i0 _ 1 1 Try.underlying39 hi hz0 hz1 hz2 rfl (by decide) _ 3 (bytesV h2) rfl O3.out a1 m d1 (bytesV o) rfl BN.out BL.out HV.out (bytesV_one _) (by unfold maxLen; omega) (by omega) Z3.out ?_; intro a4 d4 w6 ho hb hnil)
    rw [bytesV_append] at ho
    have H4 := Lib.hid (holdsB_of_values (owns_holds ho) (fun b hb => by
      rcases List.mem_append.1 hb with hb | hb
      · exact LT2.out b hb
      · exact LTO.out b hb))
    have N4 := Lib.hid hnil
    have W4 := Lib.hid (W3.out.trans (hb.mono (by have := W1.out.size; omega)))
    have CS := Lib.hid (rSeal_any a4 (3 + m) d4 (h2 ++ o) w6 H4.out N4.out (by omega))
    have LTS := Lib.hid (sealB_lt (h2 ++ o) (fun b hb => by
      rcases List.mem_append.1 hb with hb | hb
      · exact LT2.out b hb
      · exact LTO.out b hb))
    clear ho hb hnil
    go_wp2_with fail
    with_reducible refine CS.out.mono ?_
    rintro e w7 ⟨a5, d5, rfl, r1, r2, r3⟩
    have FF := Lib.hid (show EncP w (sealB (h2 ++ o)) (sealB (h2 ++ o)).length (.returned (.tuple #[.slice a5 (sealB (h2 ++ o)).length d5, .int .i64 0])) w7 from ⟨a5, d5, rfl, own_lower r1 W4.out.size, holdsB_of_values (owns_holds r1) LTS.out, W4.out.trans (r2.mono W4.out.size), r3⟩)
    clear r1 r2 r3 CS
    go_wp2_with fail
    go_ret2
    exact FF.out
set_option maxHeartbeats 3200000 in
theorem dEncode_no (kv : Int) (c1 c2 c3 c4 c5 c6 c7 c8 c9 c10 c11 c12 c13 c14 c15 c16 c17 c18 c19 c20 c21 c22 c23 c24 c25 c26 : Value) (w : World) (CM : ∀ w', Below w.heap.size w w' → Calls Try.prog 20 #[.agg #[.int .i64 kv, c1, c2, c3, c4, c5, c6, c7, c8, c9, c10, c11, c12, c13, c14, c15, c16, c17, c18, c19, c20, c21, c22, c23, c24, c25, c26]] w' fun e w'' => e = .returned (.bool false) ∧ Below w'.heap.size w' w'') :
    Calls Try.prog 15 #[.agg #[.int .i64 kv, c1, c2, c3, c4, c5, c6, c7, c8, c9, c10, c11, c12, c13, c14, c15, c16, c17, c18, c19, c20, c21, c22, c23, c24, c25, c26]] w fun e w' => e = .returned (.tuple #[.slice none 0 0, .int .i64 2]) ∧ Below w.heap.size w w' := by
  have C1 := Lib.hid CM
  obtain ⟨w3, hw3⟩ : ∃ w3, w.alloc (.cells #[.int .i64 kv, c1, c2, c3, c4, c5, c6, c7, c8, c9, c10, c11, c12, c13, c14, c15, c16, c17, c18, c19, c20, c21, c22, c23, c24, c25, c26] 46) = w3 := ⟨_, rfl⟩
  have BX := Lib.hid (show Below w.heap.size w w3 from hw3 ▸ below_one w _)
  have XI := Lib.hid (show w3.heap[w.heap.size]? = some (.cells #[.int .i64 kv, c1, c2, c3, c4, c5, c6, c7, c8, c9, c10, c11, c12, c13, c14, c15, c16, c17, c18, c19, c20, c21, c22, c23, c24, c25, c26] 46 (0, 0)) from hw3 ▸ heap_alloc_new w _)
  clear CM
  go_enter Try.func15, Try.ntmps15
  go_upto_region 1 with fail
  try rw [hw3]
  clear hw3
  obtain ⟨p, hp⟩ : ∃ p, w.heap.size = p := ⟨_, rfl⟩
  rw [hp] at XI
  try simp only [hp]
  clear hp
  have D1 := Lib.hid (C1.out w3 BX.out)
  clear C1
  go_wp2_with (first | (refine wpList_load_row rfl 46 (.tmp 1) rfl p rfl 46 #[.int .i64 kv, c1, c2, c3, c4, c5, c6, c7, c8, c9, c10, c11, c12, c13, c14, c15, c16, c17, c18, c19, c20, c21, c22, c23, c24, c25, c26] (0, 0) _ XI.out Try.underlying46 rfl (by kernel_rfl) ?_) | fail)
  with_reducible refine D1.out.mono ?_
  rintro e w4 ⟨rfl, hb⟩
  have B4 := Lib.hid (BX.out.trans (hb.mono BX.out.size))
  clear hb D1
  go_wp2_with fail
  go_ret2
  exact ⟨rfl, B4.out⟩
theorem dEncode_all (M : MsgV) (w : World) (hh : heldM w M) (hs : smallM M) : Calls Try.prog 15 #[msgC M] w (EncM w M) := by
  cases hm : mayM M
  · refine Calls.mono (R := fun e w' => e = .returned (.tuple #[.slice none 0 0, .int .i64 2]) ∧ Below w.heap.size w w') ?_ (fun e w' h => Or.inr ⟨hm, h⟩)
    have CM : ∀ w', Below w.heap.size w w' → Calls Try.prog 20 #[msgC M] w' fun e w'' => e = .returned (.bool false) ∧ Below w'.heap.size w' w'' := fun w' hb => hm ▸ rMay_all M w' (hh.below hb) hs
    cases M <;> first
      | exact dEncode_no _ _ _ _ _ _ _ _ _ _ _ _ _ _ _ _ _ _ _ _ _ _ _ _ _ _ _ w CM
      | exact dEncode_no _ _ _ _ _ _ _ _ _ _ _ _ _ _ _ _ _ _ _ _ _ _ _ _ _ _ _ w CM
      | exact dEncode_no _ _ _ _ _ _ _ _ _ _ _ _ _ _ _ _ _ _ _ _ _ _ _ _ _ _ _ w CM
      | exact dEncode_no _ _ _ _ _ _ _ _ _ _ _ _ _ _ _ _ _ _ _ _ _ _ _ _ _ _ _ w CM
      | exact dEncode_no _ _ _ _ _ _ _ _ _ _ _ _ _ _ _ _ _ _ _ _ _ _ _ _ _ _ _ w CM
      | exact dEncode_no _ _ _ _ _ _ _ _ _ _ _ _ _ _ _ _ _ _ _ _ _ _ _ _ _ _ _ w CM
  · refine Calls.mono (R := EncP w (frameM M) (frameM M).length) ?_ (fun e w' h => Or.inl ⟨hm, h⟩)
    have CM : ∀ w', Below w.heap.size w w' → Calls Try.prog 20 #[msgC M] w' fun e w'' => e = .returned (.bool true) ∧ Below w'.heap.size w' w'' := fun w' hb => hm ▸ rMay_all M w' (hh.below hb) hs
    have CB : ∀ w', Below w.heap.size w w' → Calls Try.prog 36 #[msgC M] w' (RBB w' w' (bodyM M) (bodyM M).length) := fun w' hb => rBody_all M w' (hh.below hb) hs hm
    have hl := body_len M w hh hs hm
    cases M with
    | hello a b => exact dEncode_yes 1 1 rfl _ _ _ _ _ _ _ _ _ _ _ _ _ _ _ _ _ _ _ _ _ _ _ _ _ _ _ _ w CM CB hl (by omega) rfl
    | grant a b c => exact dEncode_yes 2 2 rfl _ _ _ _ _ _ _ _ _ _ _ _ _ _ _ _ _ _ _ _ _ _ _ _ _ _ _ _ w CM CB hl (by omega) rfl
    | ask x => exact dEncode_yes 3 3 rfl _ _ _ _ _ _ _ _ _ _ _ _ _ _ _ _ _ _ _ _ _ _ _ _ _ _ _ _ w CM CB hl (by omega) rfl
    | reply x => exact dEncode_yes 4 4 rfl _ _ _ _ _ _ _ _ _ _ _ _ _ _ _ _ _ _ _ _ _ _ _ _ _ _ _ _ w CM CB hl (by omega) rfl
    | stop a b => exact dEncode_yes 5 5 rfl _ _ _ _ _ _ _ _ _ _ _ _ _ _ _ _ _ _ _ _ _ _ _ _ _ _ _ _ w CM CB hl (by omega) rfl
    | num k => cases hm
    | none => cases hm
end Go.Proofs.Ythboiklcjpnhbaa
/- messages: the Reply's items lent; the kind of a pointer (by gen/msglays.py) -/
namespace Go.Proofs.Ythboiklcjpnhbaa
open Go.RowKit
set_option linter.unusedVariables false
set_option maxRecDepth 20000
theorem taPtrHello (q : Option Addr) (w : World) : (Instr.typeAssert (.iface 53 (.pointer q)) 20 23 true).run Try.prog w = .ok (.tuple #[.agg #[.int .i64 0, .int .i64 0], .bool false]) w := by kernel_rfl
theorem taPtrGrant (q : Option Addr) (w : World) : (Instr.typeAssert (.iface 53 (.pointer q)) 20 25 true).run Try.prog w = .ok (.tuple #[.agg #[.int .i64 0, .int .i64 0, .int .i64 0], .bool false]) w := by kernel_rfl
theorem taPtrAsk (q : Option Addr) (w : World) : (Instr.typeAssert (.iface 53 (.pointer q)) 20 29 true).run Try.prog w = .ok (.tuple #[.agg #[.int .i64 0, .int .i64 0, .int .i64 0, .int .i64 0, .int .i64 0, .string ⟨#[]⟩, .int .i64 0, .int .i64 0, .bool false, .int .i64 0, .string ⟨#[]⟩], .bool false]) w := by kernel_rfl
theorem taPtrReply (q : Option Addr) (w : World) : (Instr.typeAssert (.iface 53 (.pointer q)) 20 32 true).run Try.prog w = .ok (.tuple #[.agg #[.int .i64 0, .int .i64 0, .int .i64 0, .int .i64 0, .int .i64 0, .int .i64 0, .slice none 0 0, .bool false], .bool false]) w := by kernel_rfl
theorem taPtrStop (q : Option Addr) (w : World) : (Instr.typeAssert (.iface 53 (.pointer q)) 20 34 true).run Try.prog w = .ok (.tuple #[.agg #[.int .i64 0, .int .i64 0], .bool false]) w := by kernel_rfl
theorem kindPtr (q : Option Addr) (w : World) : Calls Try.prog 21 #[.iface 53 (.pointer q)] w fun e w' => e = .returned (.int .i64 0) ∧ w = w' := by
  refine kind_of _ _ w ?_
  have tHello := taPtrHello q
  have tGrant := taPtrGrant q
  have tAsk := taPtrAsk q
  have tReply := taPtrReply q
  have tStop := taPtrStop q
  go_enter Try.func43, Try.ntmps43
  go_wp2_with fail
  go_ret
  exact ⟨rfl, rfl⟩
theorem num15_any (v : Int) (w : World) : Calls Try.prog 18 #[.int .i64 v] w fun e w' => e = .returned (.int .i64 v) ∧ w = w' := by
  go_enter Try.func18, Try.ntmps18
  go_wp2_with fail
  go_ret
  exact ⟨rfl, rfl⟩
theorem roomy2_turnD {w w' : World} {B : Nat} {e : TypeId} {n k : Nat} {ks : List KV} {S : Nat → Prop} (h : Roomy2 w B e n ks k) (t : Turn S w w') (hB : ¬ S B) : Roomy2 w' B e n ks k := by
  obtain ⟨cs, h1, h2⟩ := h
  exact ⟨cs, by rw [t.block B (Array.getElem?_eq_some_iff.1 h1).1 hB]; exact h1, h2⟩
theorem box5_free (w0 : World) (h1 h2 g1 g2 g3 : Int) (x : AskP) (y : RepP) (s1 s2 : Int) : (((((w0.alloc (.cells #[.int .i64 h1, .int .i64 h2] 23)).alloc (.cells #[.int .i64 g1, .int .i64 g2, .int .i64 g3] 25)).alloc (.cells #[.int .i64 x.slot, .int .i64 x.query, .int .i64 x.shard, .int .i64 x.seq, .int .i64 x.epoch, .string x.text, .int .i64 x.k, .int .i64 x.batch, .bool x.first, .int .i64 x.ad, .string x.aw] 29)).alloc (.cells #[.int .i64 y.slot, .int .i64 y.query, .int .i64 y.shard, .int .i64 y.seq, .int .i64 y.worker, .int .i64 y.epoch, .slice y.ia y.n y.ic, .bool y.fin] 32)).alloc (.cells #[.int .i64 s1, .int .i64 s2] 34)).frozen? ⟨w0.heap.size + 3, 6, none⟩ = false := by
  have z : (((w0.alloc (.cells #[.int .i64 h1, .int .i64 h2] 23)).alloc (.cells #[.int .i64 g1, .int .i64 g2, .int .i64 g3] 25)).alloc (.cells #[.int .i64 x.slot, .int .i64 x.query, .int .i64 x.shard, .int .i64 x.seq, .int .i64 x.epoch, .string x.text, .int .i64 x.k, .int .i64 x.batch, .bool x.first, .int .i64 x.ad, .string x.aw] 29)).heap.size = w0.heap.size + 3 := by simp
  have f := frozen_alloc (w := ((w0.alloc (.cells #[.int .i64 h1, .int .i64 h2] 23)).alloc (.cells #[.int .i64 g1, .int .i64 g2, .int .i64 g3] 25)).alloc (.cells #[.int .i64 x.slot, .int .i64 x.query, .int .i64 x.shard, .int .i64 x.seq, .int .i64 x.epoch, .string x.text, .int .i64 x.k, .int .i64 x.batch, .bool x.first, .int .i64 x.ad, .string x.aw] 29)) (cs := #[.int .i64 y.slot, .int .i64 y.query, .int .i64 y.shard, .int .i64 y.seq, .int .i64 y.worker, .int .i64 y.epoch, .slice y.ia y.n y.ic, .bool y.fin]) (T := 32) (o := 6) z.symm
  exact ((below_one ((((w0.alloc (.cells #[.int .i64 h1, .int .i64 h2] 23)).alloc (.cells #[.int .i64 g1, .int .i64 g2, .int .i64 g3] 25)).alloc (.cells #[.int .i64 x.slot, .int .i64 x.query, .int .i64 x.shard, .int .i64 x.seq, .int .i64 x.epoch, .string x.text, .int .i64 x.k, .int .i64 x.batch, .bool x.first, .int .i64 x.ad, .string x.aw] 29)).alloc (.cells #[.int .i64 y.slot, .int .i64 y.query, .int .i64 y.shard, .int .i64 y.seq, .int .i64 y.worker, .int .i64 y.epoch, .slice y.ia y.n y.ic, .bool y.fin] 32)) (.cells #[.int .i64 s1, .int .i64 s2] 34)).frozen (p := ⟨w0.heap.size + 3, 6, none⟩) (by simp)).trans f
/-- the items of a Reply lent -/
def lentR (y : RepP) (ia : Option Addr) (ic : Nat) : RepP := ⟨y.slot, y.query, y.shard, y.seq, y.worker, y.epoch, ia, y.n, ic, y.items, y.fin⟩
theorem Box5.lent {w0 w : World} {h1 h2 g1 g2 g3 : Int} {x : AskP} {y : RepP} {s1 s2 : Int} (h : Box5 w0 h1 h2 g1 g2 g3 x y s1 s2 w) (ia : Option Addr) (ic : Nat) : Box5 w0 h1 h2 g1 g2 g3 x (lentR y ia ic) s1 s2 (w.setCell ⟨w0.heap.size + 3, 6, none⟩ (.slice ia y.n ic)) := by
  obtain ⟨b, ⟨c0_0, c0_1⟩, ⟨c1_0, c1_1, c1_2⟩, ⟨c2_0, c2_1, c2_2, c2_3, c2_4, c2_5, c2_6, c2_7, c2_8, c2_9, c2_10⟩, ⟨c3_0, c3_1, c3_2, c3_3, c3_4, c3_5, c3_6, c3_7⟩, ⟨c4_0, c4_1⟩⟩ := h
  have t : Turn (fun q => q = w0.heap.size + 3) w (w.setCell ⟨w0.heap.size + 3, 6, none⟩ (.slice ia y.n ic)) := Turn.setCell rfl
  have l0 := lt_of_cell c0_0; have l1 := lt_of_cell c1_0; have l2 := lt_of_cell c2_0; have l4 := lt_of_cell c4_0
  refine ⟨b.trans (t.below (fun k hk => by omega) b.size), ⟨(t.cell l0 (by omega)).trans c0_0, (t.cell l0 (by omega)).trans c0_1⟩, ⟨(t.cell l1 (by omega)).trans c1_0, (t.cell l1 (by omega)).trans c1_1, (t.cell l1 (by omega)).trans c1_2⟩,
    ⟨(t.cell l2 (by omega)).trans c2_0, (t.cell l2 (by omega)).trans c2_1, (t.cell l2 (by omega)).trans c2_2, (t.cell l2 (by omega)).trans c2_3, (t.cell l2 (by omega)).trans c2_4, (t.cell l2 (by omega)).trans c2_5, (t.cell l2 (by omega)).trans c2_6, (t.cell l2 (by omega)).trans c2_7, (t.cell l2 (by omega)).trans c2_8, (t.cell l2 (by omega)).trans c2_9, (t.cell l2 (by omega)).trans c2_10⟩,
    ⟨(cset_ne (by omega)).trans c3_0, (cset_ne (by omega)).trans c3_1, (cset_ne (by omega)).trans c3_2, (cset_ne (by omega)).trans c3_3, (cset_ne (by omega)).trans c3_4, (cset_ne (by omega)).trans c3_5, cset_at c3_6, (cset_ne (by omega)).trans c3_7⟩, ⟨(t.cell l4 (by omega)).trans c4_0, (t.cell l4 (by omega)).trans c4_1⟩⟩
end Go.Proofs.Ythboiklcjpnhbaa
/- what was answered is written over, and beyond (OverBytes): nothing else is written -/
namespace Go.Proofs.Ythboiklcjpnhbaa
open Go.RowKit
set_option linter.unusedVariables false
set_option maxRecDepth 20000
theorem overBytes_info : (Try.prog.info? 5).map (fun i => (i.zero, i.size, i.bytes)) = some (some (.int .u8 0), 1, 1) := by kernel_rfl
set_option maxHeartbeats 400000 in
/-- Written over is a slice of the call's own (its blocks lie from B on): below B nothing turns. -/
theorem overBytes_any (B : Nat) (a : Option Addr) (n cap : Nat) (xs : List Value) (w : World) (h : w.ownsRow B 5 1 (.slice a n cap) n xs) (hB : B ≤ w.heap.size) (hn : n ≤ 1048576) :
    Calls Try.prog 22 #[.slice a n cap] w fun e w' => e = .returned (.tuple #[]) ∧ Below B w w' := by
  obtain ⟨i0, hi, hz0, hz1, hz2⟩ := info_parts overBytes_info
  have H := Lib.hid h
  clear h
  go_enter Try.func22, Try.ntmps22
  go_wp2_with fail
  go_loopw [2] (fun i wr => ∃ (k : Nat) (ys : List Value), k ≤ n ∧ i = .int .i64 k ∧ Hid (wr.ownsRow B 5 1 (.slice a n cap) n ys) ∧ Hid (Below B w wr)) (fun i _ => n - (intOf i).toNat)
  case atStart => exact ⟨0, xs, by omega, rfl, H, Below.refl _ _⟩
  case round =>
    obtain ⟨k, ys, hk, rfl, hO, hBw⟩ := hrel
    by_cases hlt : k < n
    · obtain ⟨g, rfl⟩ : ∃ g, a = some ⟨g, 0, none⟩ := by
        obtain ⟨g, cap', hv⟩ := Joins.ownsRow_form hO.out (by omega)
        simp only [Value.slice.injEq] at hv
        exact ⟨g, hv.1⟩
      have hc := hO.out.cellAt k (by omega)
      have hyl : k < ys.length := by have := hO.out.1; omega
      rw [List.getElem?_eq_getElem hyl] at hc
      obtain ⟨y, hy⟩ : ∃ y, ys[k] = y := ⟨_, rfl⟩
      rw [hy] at hc
      clear hy hyl
      have hf := hO.out.frozenAt k
      go_wp2
      go_roundw
      case rel => exact ⟨k + 1, _, by omega, by go_num, Lib.hid (hO.out.stored k _).1, Lib.hid (hBw.out.setCell (p := ⟨g, k, none⟩) (hO.out.lt g rfl).1 _)⟩
      case measure => simp [intOf]; omega
    · have hs := hBw.out.size
      go_wp2_with (at_builtin; refine wpList_append_any rfl (.tmp 12) (.tmp 13) 39 rfl B 5 i0 (.int .u8 0) 1 1 Try.underlying39 hi hz0 hz1 hz2 rfl (by decide) _ n _ rfl (hO.out.alloc _) _ 1 1 _ rfl (some_none _) rfl (one_new _ _ _ _) (one_int _ _) (by unfold maxLen; omega) (by omega) (by simp; omega) ?_; intro a3 c3 w3 hown3 hb3 hnil3)
      go_end0
      exact ⟨rfl, hBw.out.trans (((Below.refl _ _).alloc (by omega) _).trans hb3)⟩
end Go.Proofs.Ythboiklcjpnhbaa
