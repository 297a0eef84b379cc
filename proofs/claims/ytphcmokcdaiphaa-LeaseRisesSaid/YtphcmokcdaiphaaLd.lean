/- leases: contract of Hello -/
import Derived.Test.YtphcmokcdaiphaaLc
namespace Go.Proofs.Ytphcmokcdaiphaa
open Go.RowKit
set_option linter.unusedVariables false
theorem hello_nil (k f t : Int) (w : World) :
    Calls Try.prog 15 #[.pointer none, .int .i64 k, .int .i64 f, .int .i64 t] w fun r w' => r = .returned (.tuple #[.int .i64 0, .int .i64 1]) ∧ w = w' := by
  go_enter Try.func15, Try.ntmps15
  go_wp2_with fail
  go_ret2
  exact ⟨rfl, rfl⟩
theorem hello_bad {s : Lt} (b : Nat) (k f t : Int) (w : World) (h : Tab w b s) (ha : ¬ helloArg s k f t) :
    Calls Try.prog 15 #[.pointer (some ⟨b, 0, none⟩), .int .i64 k, .int .i64 f, .int .i64 t] w fun r w' => r = .returned (.tuple #[.int .i64 0, .int .i64 2]) ∧ w = w' := by
  have H := Lib.hid h
  by_cases hk : worker s k
  case neg =>
    have K := Lib.hid hk
    clear h hk ha
    go_enter Try.func15, Try.ntmps15
    go_wp2_with fail
    refine (has_no b k _ H.out K.out).mono ?_
    rintro e w' ⟨rfl, rfl⟩
    go_wp2_with fail
    go_ret2
    exact ⟨rfl, rfl⟩
  by_cases hf : lived f
  case neg =>
    have K := Lib.hid hk; have F := Lib.hid hf
    clear h hk hf ha
    go_enter Try.func15, Try.ntmps15
    go_wp2_with fail
    refine (has_yes b k _ H.out K.out).mono ?_
    rintro e w' ⟨rfl, rfl⟩
    go_wp2_with fail
    refine (in_no _ _ _ _ F.out).mono ?_
    rintro e w' ⟨rfl, rfl⟩
    go_wp2_with fail
    go_ret2
    exact ⟨rfl, rfl⟩
  have ht : ¬ timed t := fun x => ha ⟨hk, hf, x⟩
  have K := Lib.hid hk; have F := Lib.hid hf; have T := Lib.hid ht
  clear h hk hf ht ha
  go_enter Try.func15, Try.ntmps15
  go_wp2_with fail
  refine (has_yes b k _ H.out K.out).mono ?_
  rintro e w' ⟨rfl, rfl⟩
  go_wp2_with fail
  refine (in_yes _ _ _ _ F.out).mono ?_
  rintro e w' ⟨rfl, rfl⟩
  go_wp2_with fail
  refine (time_no t _ T.out).mono ?_
  rintro e w' ⟨rfl, rfl⟩
  go_wp2_with fail
  go_ret2
  exact ⟨rfl, rfl⟩
set_option maxHeartbeats 1600000 in
theorem hello_good_arg {s : Lt} (b : Nat) (k f t : Int) (w : World) (h : Tab w b s) (hg : Good s) (ha : helloArg s k f t) :
    Calls Try.prog 15 #[.pointer (some ⟨b, 0, none⟩), .int .i64 k, .int .i64 f, .int .i64 t] w fun r w' => r = .returned (.tuple #[.int .i64 (helloE s k f t), .int .i64 (helloN s k f t)]) ∧ Then b w (helloS s k f t) w' := by
  have H := Lib.hid h
  obtain ⟨hk, hf, ht⟩ := ha
  have ha : helloArg s k f t := ⟨hk, hf, ht⟩
  obtain ⟨hw, hi⟩ := sub_w hg hk
  have hc := h.rs.ce (idx k) hi
  have hl := h.rs.cl (idx k) hi
  have he := h.rs.cu (idx k) hi
  have hu := hg.u (idx k)
  have hE := hg.e (idx k)
  have hL := hg.l (idx k)
  have h1 := h.c1
  have hT := hg.t
  have hfr := h.fr
  have K := Lib.hid hk; have F := Lib.hid hf; have T := Lib.hid ht
  have hadd : IntKind.i64.wrap (t + s.T) = t + s.T := IntWalk.i64_in _ (by unfold timed at ht; omega)
  unfold helloE helloN helloS
  rw [if_pos ha, if_pos ha, if_pos ha]
  clear h hk hf ht ha hg
  generalize idx k = i at *
  by_cases hlt : f < s.L i
  · rw [if_pos hlt, if_pos hlt, if_pos hlt]
    go_enter Try.func15, Try.ntmps15
    go_wp2_with fail
    refine (has_yes b k _ H.out K.out).mono ?_
    rintro e w' ⟨rfl, rfl⟩
    go_wp2_with fail
    refine (in_yes _ _ _ _ F.out).mono ?_
    rintro e w' ⟨rfl, rfl⟩
    go_wp2_with fail
    refine (time_yes t _ T.out).mono ?_
    rintro e w' ⟨rfl, rfl⟩
    go_wp2_with fail
    go_ret2
    exact ⟨rfl, H.out, But.refl _ _⟩
  rw [if_neg hlt, if_neg hlt, if_neg hlt]
  by_cases hgt : s.L i < f
  · have hb : bumped s i f = raised s i f := if_pos hgt
    rw [hb]
    go_enter Try.func15, Try.ntmps15
    go_wp2_with fail
    refine (has_yes b k _ H.out K.out).mono ?_
    rintro e w' ⟨rfl, rfl⟩
    go_wp2_with fail
    refine (in_yes _ _ _ _ F.out).mono ?_
    rintro e w' ⟨rfl, rfl⟩
    go_wp2_with fail
    refine (time_yes t _ T.out).mono ?_
    rintro e w' ⟨rfl, rfl⟩
    go_wp2_with fail
    have TR := Lib.hid (show Tab ((w.setCell ⟨b, 2 + i * 3 + 1, none⟩ (.int .i64 f)).setCell ⟨b, 2 + i * 3, none⟩ (.int .i64 (s.E i + 1))) b (raised s i f) from (H.out.setL i f hi).setE i (s.E i + 1) hi)
    refine (extend_any b _ (s.U i) _ _ (TR.out.rs.cu i hi) (TR.out.fr _)).mono ?_
    rintro r w' ⟨rfl, rfl⟩
    have TX := Lib.hid (TR.out.setU i (max (s.U i) (t + s.T)) hi)
    have BX := Lib.hid ((((But.setCell w b (2 + i * 3 + 1) (.int .i64 f)).trans (But.setCell _ b (2 + i * 3) (.int .i64 (s.E i + 1)))).trans (But.setCell _ b (2 + i * 3 + 2) (.int .i64 (max (s.U i) (t + s.T))))))
    have hx := TX.out.rs.ce i hi
    rw [show ({ raised s i f with U := upd (raised s i f).U i (max (s.U i) (t + s.T)) } : Lt).E i = s.E i + 1 from upd_at _ _ _] at hx
    generalize ((w.setCell ⟨b, 2 + i * 3 + 1, none⟩ (.int .i64 f)).setCell ⟨b, 2 + i * 3, none⟩ (.int .i64 (s.E i + 1))).setCell ⟨b, 2 + i * 3 + 2, none⟩ (.int .i64 (max (s.U i) (t + s.T))) = w3 at *
    go_wp2_with fail
    go_ret2
    refine ⟨?_, TX.out, BX.out⟩
    rw [show (raised s i f).E i = s.E i + 1 from upd_at _ _ _]; rfl
  · have hb : bumped s i f = s := if_neg hgt
    rw [hb]
    go_enter Try.func15, Try.ntmps15
    go_wp2_with fail
    refine (has_yes b k _ H.out K.out).mono ?_
    rintro e w' ⟨rfl, rfl⟩
    go_wp2_with fail
    refine (in_yes _ _ _ _ F.out).mono ?_
    rintro e w' ⟨rfl, rfl⟩
    go_wp2_with fail
    refine (time_yes t _ T.out).mono ?_
    rintro e w' ⟨rfl, rfl⟩
    go_wp2_with fail
    refine (extend_any b _ (s.U i) _ w he (hfr _)).mono ?_
    rintro r w' ⟨rfl, rfl⟩
    go_wp2_with fail
    go_ret2
    exact ⟨rfl, H.out.setU i _ hi, But.setCell _ _ _ _⟩
theorem hello_any {s : Lt} (b : Nat) (k f t : Int) (w : World) (h : Tab w b s) (hg : Good s) :
    Calls Try.prog 15 #[.pointer (some ⟨b, 0, none⟩), .int .i64 k, .int .i64 f, .int .i64 t] w fun r w' => r = .returned (.tuple #[.int .i64 (helloE s k f t), .int .i64 (helloN s k f t)]) ∧ Then b w (helloS s k f t) w' := by
  by_cases ha : helloArg s k f t
  · exact hello_good_arg b k f t w h hg ha
  · unfold helloE helloN helloS
    rw [if_neg ha, if_neg ha, if_neg ha]
    refine (hello_bad b k f t w h ha).mono ?_
    rintro r w' ⟨rfl, rfl⟩
    exact ⟨rfl, h, But.refl _ _⟩
end Go.Proofs.Ytphcmokcdaiphaa
