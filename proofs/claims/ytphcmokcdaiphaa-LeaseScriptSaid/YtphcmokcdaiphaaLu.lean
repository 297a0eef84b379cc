/- leases: the document's Hello -/
import Derived.Test.YtphcmokcdaiphaaLt
namespace Go.Proofs.Ytphcmokcdaiphaa
open Go.RowKit
set_option linter.unusedVariables false
theorem max_cases (u v : Int) : (u < v ∧ max u v = v) ∨ (v ≤ u ∧ max u v = u) := by omega
set_option maxHeartbeats 3200000 in
theorem rhello_good_arg {s : Lt} (b : Nat) (k f t : Int) (w : World) (h : RTab w b s) (hg : Good s) (ha : helloArg s k f t) :
    Calls Try.prog 16 #[.pointer (some ⟨b, 0, none⟩), .int .i64 k, .int .i64 f, .int .i64 t] w fun r w' => r = .returned (.tuple #[.int .i64 (helloE s k f t), .int .i64 (helloN s k f t)]) ∧ RThen b w (helloS s k f t) w' := by
  have H := Lib.hid h
  have hT := hg.t
  obtain ⟨i, rfl, hi⟩ := worker_nat hg ha.1
  unfold helloE helloN helloS
  rw [if_pos ha, if_pos ha, if_pos ha, idx_nat]
  have K := Lib.hid ha.1
  obtain ⟨f1, f2⟩ := ha.2.1
  obtain ⟨t1, t2⟩ := ha.2.2
  have hu := hg.u i; have hE := hg.e i; have hL := hg.l i
  obtain ⟨c1, c2, c3⟩ := h.at hi
  have ct := h.ct
  have fr := h.fr
  have q1 : (0 : Int) ≤ ((i + 1 : Nat) : Int) := by omega
  have q2 : ((i + 1 : Nat) : Int) < 6 := by omega
  have hadd : IntKind.i64.wrap (t + s.T) = t + s.T := IntWalk.i64_in _ (by omega)
  have hadd1 : IntKind.i64.wrap (s.E i + 1) = s.E i + 1 := IntWalk.i64_in _ (by omega)
  have hset := Lib.hid (fun (w : World) (s : Lt) (h : RTab w b s) (v : Int) => h.setU i v hi)
  have hraise := Lib.hid (show RTab ((w.setCell ⟨b, (i + 1) * 3 + 1, none⟩ (.int .i64 f)).setCell ⟨b, (i + 1) * 3, none⟩ (.int .i64 (s.E i + 1))) b (raised s i f) from (h.setL i f hi).setE i (s.E i + 1) hi)
  have hat := Lib.hid (fun (w : World) (s : Lt) (h : RTab w b s) => h.at hi)
  clear ha h hg
  generalize hn : i + 1 = n at *
  have HN := Lib.hid hn
  clear hn
  have hcase : f < s.L i ∨ (s.L i ≤ f ∧ ¬ s.L i < f) ∨ s.L i < f := by omega
  rcases hcase with hl | ⟨hl, hl2⟩ | hl
  · rw [if_pos hl, if_pos hl, if_pos hl]
    go_enter Try.func16, Try.ntmps16
    go_wp2_with fail
    refine (is_yes b _ _ H.out K.out).mono ?_
    rintro e w' ⟨rfl, rfl⟩
    go_wp2_with fail
    go_ret2
    exact ⟨rfl, H.out, But.refl _ _⟩
  · have hb : bumped s i f = s := if_neg hl2
    rw [if_neg (by omega), if_neg (by omega), if_neg (by omega), hb]
    clear hb
    rcases max_cases (s.U i) (t + s.T) with ⟨hmax, hm⟩ | ⟨hmax, hm⟩
    all_goals
      have HM := Lib.hid hm
      clear hm
      go_enter Try.func16, Try.ntmps16
      go_wp2_with fail
      refine (is_yes b _ _ H.out K.out).mono ?_
      rintro e w' ⟨rfl, rfl⟩
      go_upto_region 8 with fail
      go_region
      go_wp2_with fail
      go_ret2
      have hx := hset.out _ _ H.out (max (s.U i) (t + s.T))
      refine ⟨rfl, ?_, (But.setCell _ _ _ _).trans (But.of_below b (Below.refl _ _).drew)⟩
      unfold extended
      rw [HM.out] at hx ⊢
      exact hx.below (Below.refl _ _).drew
  · have hb : bumped s i f = raised s i f := if_pos hl
    rw [if_neg (by omega), if_neg (by omega), if_neg (by omega), hb]
    clear hb
    rcases max_cases (s.U i) (t + s.T) with ⟨hmax, hm⟩ | ⟨hmax, hm⟩
    all_goals
      have HM := Lib.hid hm
      clear hm
      go_enter Try.func16, Try.ntmps16
      go_wp2_with fail
      refine (is_yes b _ _ H.out K.out).mono ?_
      rintro e w' ⟨rfl, rfl⟩
      go_upto_region 7 with fail
      go_region
      obtain ⟨w2, hw2⟩ : ∃ w2, ((w.setCell ⟨b, n * 3 + 1, none⟩ (.int .i64 f)).setCell ⟨b, n * 3, none⟩ (.int .i64 (s.E i + 1))).drew = w2 := ⟨_, rfl⟩
      have H2 : Hid (RTab w2 b (raised s i f)) := Lib.hid (hw2 ▸ hraise.out.below (Below.refl _ _).drew)
      have B2 : Hid (But b w w2) := Lib.hid (hw2 ▸ (((But.setCell w b (n * 3 + 1) (.int .i64 f)).trans (But.setCell _ b (n * 3) (.int .i64 (s.E i + 1)))).trans (But.of_below b (Below.refl _ _).drew)))
      rw [hw2]
      clear hw2 c1 c2 c3 ct fr
      obtain ⟨c1, c2, c3⟩ := hat.out _ _ H2.out
      have ct := H2.out.ct
      have fr := H2.out.fr
      rw [show (raised s i f).E i = s.E i + 1 from upd_at _ _ _] at c1
      rw [show (raised s i f).U = s.U from rfl] at c3
      rw [show (raised s i f).T = s.T from rfl] at ct
      go_upto_region 8 with fail
      go_region
      go_wp2_with fail
      go_ret2
      have hx := hset.out _ _ H2.out (max (s.U i) (t + s.T))
      refine ⟨by rw [show (raised s i f).E i = s.E i + 1 from upd_at _ _ _]; rfl, ?_, (B2.out.trans (But.setCell _ _ _ _)).trans (But.of_below b (Below.refl _ _).drew)⟩
      have h3 : extended (raised s i f) i t = { raised s i f with U := upd (raised s i f).U i (max (s.U i) (t + s.T)) } := rfl
      rw [h3]
      rw [HM.out] at hx ⊢
      exact hx.below (Below.refl _ _).drew
theorem rhello_any {s : Lt} (b : Nat) (k f t : Int) (w : World) (h : RTab w b s) (hg : Good s) :
    Calls Try.prog 16 #[.pointer (some ⟨b, 0, none⟩), .int .i64 k, .int .i64 f, .int .i64 t] w fun r w' => r = .returned (.tuple #[.int .i64 (helloE s k f t), .int .i64 (helloN s k f t)]) ∧ RThen b w (helloS s k f t) w' := by
  by_cases ha : helloArg s k f t
  · exact rhello_good_arg b k f t w h hg ha
  · unfold helloE helloN helloS
    rw [if_neg ha, if_neg ha, if_neg ha]
    refine (rhello_bad b k f t w h ha).mono ?_
    rintro r w' ⟨rfl, rfl⟩
    exact ⟨rfl, h, But.refl _ _⟩
theorem num_any (n : Int) (w : World) :
    Calls Try.prog 12 #[.int .i64 n] w fun r w' => r = .returned (.int .i64 n) ∧ w = w' := by
  go_enter Try.func12, Try.ntmps12
  go_wp2
  go_ret
  exact ⟨rfl, rfl⟩
end Go.Proofs.Ytphcmokcdaiphaa
