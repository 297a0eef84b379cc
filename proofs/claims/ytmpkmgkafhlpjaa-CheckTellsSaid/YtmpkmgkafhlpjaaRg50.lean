/- contract of the document's distance of texts; the laws of texts -/
import Derived.Test.YtmpkmgkafhlpjaaRg4
import Derived.Test.YtmpkmgkafhlpjaaRf20
namespace Go.Proofs.Ytmpkmgkafhlpjaa
open Go.RowKit
set_option linter.unusedVariables false
set_option maxRecDepth 20000
theorem r1good (s : ByteArray) (w : World) (hs : s.size ≤ 1048576) (hg : 0 ≤ lenS s) :
    Calls Try.prog 44 #[.string s] w fun e w' => ∃ a c, e = .returned (.tuple #[.slice a (runesS s).length c, .bool true]) ∧ HoldsI .i32 w' a (runesS s).length (intsN (runesS s)) ∧ Below w.heap.size w w' := by
  refine (r1runes_any s w hs).mono ?_
  rintro e w' (⟨_, a, c, h1, h2, _, h3⟩ | ⟨h, _⟩)
  · exact ⟨a, c, h1, h2, h3⟩
  · omega
theorem r1bad (s : ByteArray) (w : World) (hs : s.size ≤ 1048576) (hg : lenS s < 0) :
    Calls Try.prog 44 #[.string s] w fun e w' => e = .returned (.tuple #[.slice none 0 0, .bool false]) ∧ Below w.heap.size w w' := by
  refine (r1runes_any s w hs).mono ?_
  rintro e w' (⟨h, _⟩ | ⟨_, h1, h2⟩)
  · omega
  · exact ⟨h1, h2⟩
set_option maxHeartbeats 1600000 in
theorem rdist_any (a b : ByteArray) (w : World) (hsa : a.size ≤ 1048576) (hsb : b.size ≤ 1048576) :
    Calls Try.prog 33 #[.string a, .string b] w fun e w' => e = .returned (.int .i64 (distS a b)) ∧ Below w.heap.size w w' := by
  by_cases hga : 0 ≤ lenS a
  · have hA := Lib.hid (r1good a w hsa hga)
    by_cases hgb : 0 ≤ lenS b
    · have hBr := Lib.hid (fun w => r1good b w hsb hgb)
      have hd : distS a b = Ed.L (intsN (runesS a)) (intsN (runesS b)) (runesS a).length (runesS b).length := by unfold distS; rw [if_pos ⟨hga, hgb⟩]
      have HLE := Lib.hid (runesS_le a); have HLEB := Lib.hid (runesS_le b)
      rw [hd]
      clear hd hga hgb
      go_enter Try.func33, Try.ntmps33
      go_wp2_with fail
      refine hA.out.mono ?_
      rintro e w1 ⟨a1, c1, rfl, hh1, hb1⟩
      have H1 := Lib.hid hh1; have B1 := Lib.hid hb1
      clear hh1 hb1
      go_wp2_with fail
      refine (hBr.out _).mono ?_
      rintro e w2 ⟨a2, c2, rfl, hh2, hb2⟩
      have H2 := Lib.hid hh2; have H1b := Lib.hid (H1.out.below hb2); have B2 := Lib.hid (B1.out.trans (hb2.mono B1.out.size))
      clear hh2 hb2
      go_wp2_with fail
      refine (rruns_any (intsN (runesS a)) (intsN (runesS b)) a1 a2 _ _ c1 c2 w2 H1b.out H2.out (by have := HLE.out; omega) (by have := HLEB.out; omega)).mono ?_
      rintro e w3 ⟨rfl, hb3⟩
      have B3 := Lib.hid (B2.out.trans (hb3.mono B2.out.size))
      clear hb3
      go_wp2_with fail
      go_ret
      exact ⟨rfl, B3.out⟩
    · have hBr := Lib.hid (fun w => r1bad b w hsb (by omega))
      have hd : distS a b = -1 := by unfold distS; rw [if_neg (fun h => hgb h.2)]
      rw [hd]
      clear hd hga hgb
      go_enter Try.func33, Try.ntmps33
      go_wp2_with fail
      refine hA.out.mono ?_
      rintro e w1 ⟨a1, c1, rfl, hh1, hb1⟩
      have B1 := Lib.hid hb1
      clear hh1 hb1
      go_wp2_with fail
      refine (hBr.out _).mono ?_
      rintro e w2 ⟨rfl, hb2⟩
      have B2 := Lib.hid (B1.out.trans (hb2.mono B1.out.size))
      clear hb2
      go_wp2_with fail
      go_ret
      exact ⟨rfl, B2.out⟩
  · have hA := Lib.hid (r1bad a w hsa (by omega))
    have hd : distS a b = -1 := by unfold distS; rw [if_neg (fun h => hga h.1)]
    rw [hd]
    clear hd hga
    by_cases hgb : 0 ≤ lenS b
    · have hBr := Lib.hid (fun w => r1good b w hsb hgb)
      clear hgb
      go_enter Try.func33, Try.ntmps33
      go_wp2_with fail
      refine hA.out.mono ?_
      rintro e w1 ⟨rfl, hb1⟩
      have B1 := Lib.hid hb1
      clear hb1
      go_wp2_with fail
      refine (hBr.out _).mono ?_
      rintro e w2 ⟨a2, c2, rfl, hh2, hb2⟩
      have B2 := Lib.hid (B1.out.trans (hb2.mono B1.out.size))
      clear hb2 hh2
      go_wp2_with fail
      go_ret
      exact ⟨rfl, B2.out⟩
    · have hBr := Lib.hid (fun w => r1bad b w hsb (by omega))
      clear hgb
      go_enter Try.func33, Try.ntmps33
      go_wp2_with fail
      refine hA.out.mono ?_
      rintro e w1 ⟨rfl, hb1⟩
      have B1 := Lib.hid hb1
      clear hb1
      go_wp2_with fail
      refine (hBr.out _).mono ?_
      rintro e w2 ⟨rfl, hb2⟩
      have B2 := Lib.hid (B1.out.trans (hb2.mono B1.out.size))
      clear hb2
      go_wp2_with fail
      go_ret
      exact ⟨rfl, B2.out⟩
end Go.Proofs.Ytmpkmgkafhlpjaa
