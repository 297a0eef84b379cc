/- msg: any bytes are read as the document says, or refused (by gen/msgreads.py) -/
import Derived.Test.YthboiklcjpnhbaaPkH
import Derived.Test.YthboiklcjpnhbaaPkC
namespace Go.Proofs.Ythboiklcjpnhbaa
open Go.RowKit
set_option linter.unusedVariables false
set_option maxRecDepth 20000
set_option maxRecDepth 100000
theorem num15r_any (v : Int) (w : World) : Calls Try.prog 18 #[.int .i64 v] w fun e w' => e = .returned (.int .i64 v) ∧ w = w' := by
  go_enter Try.func18, Try.ntmps18
  go_wp2_with fail
  go_ret
  exact ⟨rfl, rfl⟩
theorem turn_grown15 {w w' : World} {r : Option Nat} (h : w.grownBy w' r) : Turn (fun k => some k = r) w w' := ⟨h.os, h.tape, h.output, h.size, fun k hk hn => h.block k hk hn⟩
theorem base_less15 {w : World} {B B' : Nat} {e : TypeId} {size n : Nat} {v : Value} {xs : List Value} (h : w.ownsRow B e size v n xs) (hB : B' ≤ B) : w.ownsRow B' e size v n xs := by
  refine ⟨h.1, h.2.imp id ?_⟩
  rintro ⟨g, cap, cur, hv, hb, r⟩
  exact ⟨g, cap, cur, hv, by omega, r⟩
theorem roomy_own15 {w : World} {B : Nat} {e : TypeId} {mark : Value} {n : Nat} {xs : List Value} {k : Nat} (h : Roomy w B e mark n xs k) (hl : xs.length = n) (hn : n + 3 ≤ maxLen) : w.ownsRow B e 1 (.slice (some ⟨B, 0, none⟩) n (n + 3)) n xs := by
  obtain ⟨cs, h1, h2, h3, h4⟩ := h
  refine ⟨by omega, Or.inr ⟨B, n + 3, cs, rfl, Nat.le_refl _, h1, by omega, hn, by omega, ?_⟩⟩
  apply List.ext_getElem?
  intro i
  rw [List.getElem?_take, Nat.mul_one]
  by_cases hi : i < n
  · rw [if_pos hi, Array.getElem?_toList, h3 i hi, List.getD_eq_getElem?_getD, List.getElem?_eq_getElem (by omega)]; rfl
  · rw [if_neg hi, List.getElem?_eq_none (by omega)]
theorem held_apart {w : World} {B n : Nat} {e : TypeId} {bs : List Nat} (hl : bs.length = n) (hr : Roomy w B e (.int .u8 119) n (bytesV bs) 3) {M : MsgV} (h : heldM w M) : ∀ x, M = .reply x → ∀ q o, 0 < x.n → x.ia = some ⟨q, o, none⟩ → q ≠ B := by
  rintro x rfl q o h0 e rfl
  obtain ⟨b, o', ha, hc⟩ := h.1.2 h0
  rw [e] at ha
  injection ha with ha; injection ha with h1 h2; subst h1; subst h2
  have hx := (hc 0 h0).1
  obtain ⟨cs, hh, hs, h3, h4⟩ := hr
  simp only [World.cell?, hh, Nat.zero_mul, Nat.add_zero] at hx
  by_cases hn : o < n
  · have h5 := h3 o hn
    rw [List.getD_eq_getElem?_getD, show (bytesV bs)[o]? = (bs[o]?).map (fun b : Nat => Value.int .u8 (b : Int)) from by simp [bytesV]; rfl, List.getElem?_eq_getElem (by omega)] at h5
    simp only [Option.map_some, Option.getD_some] at h5
    simp [h5] at hx
  · by_cases h5 : o < n + 3
    · have h6 := h4 (o - n) (by omega)
      rw [show n + (o - n) = o by omega] at h6
      simp [h6] at hx
    · rw [Array.getElem?_eq_none (by omega)] at hx
      simp at hx
theorem dec_form {w w' : World} {bs : List Nat} {n : Nat} {e : Ending} (h : DecM w bs n e w') : ∃ V ev, e = .returned (.tuple #[V, .int .i64 ev]) ∧ DecM w bs n (.returned (.tuple #[V, .int .i64 ev])) w' := by
  have h' := h
  obtain ⟨hb, ⟨-, rfl⟩ | ⟨-, -, rfl⟩ | ⟨-, -, M, -, -, -, ⟨-, -, rfl⟩ | ⟨-, rfl⟩⟩⟩ := h <;> exact ⟨_, _, rfl, h'⟩
theorem ddec_form {w w' : World} {bs : List Nat} {n : Nat} {e : Ending} (h : DDec w bs n e w') : ∃ (cs : Array Value) (ev : Int), e = .returned (.tuple #[.agg cs, .int .i64 ev]) ∧ cs.size = 27 ∧ cs.all (·.oneCell') = true ∧ DDec w bs n (.returned (.tuple #[.agg cs, .int .i64 ev])) w' := by
  have h' := h
  obtain ⟨cn, hn, n1, n2⟩ := msg_cells .none
  obtain ⟨hb, ⟨-, rfl⟩ | ⟨-, -, rfl⟩ | ⟨-, -, M, s, -, -, -, ⟨-, -, -, rfl⟩ | ⟨-, rfl⟩⟩⟩ := h
  · rw [hn] at h' ⊢; exact ⟨_, _, rfl, n1, n2, h'⟩
  · rw [hn] at h' ⊢; exact ⟨_, _, rfl, n1, n2, h'⟩
  · obtain ⟨cm, hm, m1, m2⟩ := msg_cells M
    rw [hm] at h' ⊢; exact ⟨_, _, rfl, m1, m2, h'⟩
  · rw [hn] at h' ⊢; exact ⟨_, _, rfl, n1, n2, h'⟩
def Agree (V : Value) (cs : Array Value) (ev : Int) (w2 w3 : World) : Prop :=
  (ev ≠ 0 ∧ V = .nilIface) ∨ (ev = 0 ∧ ∃ M M', V = valM M ∧ .agg cs = msgC M' ∧ SameM M M' ∧ heldM w2 M ∧ heldM w3 M' ∧ smallM M)
theorem inner_len (M : MsgV) (bs : List Nat) (n : Nat) (hf : frameM M = bs) (hl : bs.length = n) : inner bs n = Cod.bytesOf (kindM M) 1 ++ bodyM M ∧ (inner bs n).length = n - 6 := by
  have h1 : (frameM M).length = (bodyM M).length + 7 := by unfold frameM; rw [frameB_len]
  have h2 : inner bs n = Cod.bytesOf (kindM M) 1 ++ bodyM M := by
    rw [← hf]; exact inner_frame (kindM M) (bodyM M) n (by rw [← hl, ← hf]; exact h1)
  refine ⟨h2, ?_⟩
  rw [h2, List.length_append, Cod.bytesOf_length]
  rw [hf, hl] at h1
  omega
theorem reads_agree {w1 w2 w3 w4 : World} {bs : List Nat} {n : Nat} (hl : bs.length = n) {V : Value} {cs : Array Value} {ev ev' : Int} (h : DecM w1 bs n (.returned (.tuple #[V, .int .i64 ev])) w2) (h' : DDec w3 bs n (.returned (.tuple #[.agg cs, .int .i64 ev'])) w4) : ev' = ev ∧ Agree V cs ev w2 w4 := by
  obtain ⟨-, h⟩ := h
  obtain ⟨-, h'⟩ := h'
  rcases h with ⟨s1, e1⟩ | ⟨s1, o1, e1⟩ | ⟨s1, o1, M, hg, hh, hs, h⟩
  · rcases h' with ⟨-, e2⟩ | ⟨s2, -, -⟩ | ⟨s2, -, -⟩
    · simp only [Ending.returned.injEq, Value.tuple.injEq, Array.mk.injEq, List.cons.injEq, Value.int.injEq, and_true, true_and] at e1 e2
      obtain ⟨rfl, rfl⟩ := e1; obtain ⟨-, rfl⟩ := e2
      exact ⟨rfl, Or.inl ⟨by decide, rfl⟩⟩
    · rw [s1] at s2; cases s2
    · rw [s1] at s2; cases s2
  · rcases h' with ⟨s2, -⟩ | ⟨-, -, e2⟩ | ⟨-, o2, -⟩
    · rw [s1] at s2; cases s2
    · simp only [Ending.returned.injEq, Value.tuple.injEq, Array.mk.injEq, List.cons.injEq, Value.int.injEq, and_true, true_and] at e1 e2
      obtain ⟨rfl, rfl⟩ := e1; obtain ⟨-, rfl⟩ := e2
      exact ⟨rfl, Or.inl ⟨by decide, rfl⟩⟩
    · rw [o1] at o2; cases o2
  · rcases h' with ⟨s2, -⟩ | ⟨-, o2, -⟩ | ⟨-, -, M', s, hg', hh', hs', h'⟩
    · rw [s1] at s2; cases s2
    · rw [o1] at o2; cases o2
    · rcases h with ⟨hm, hf, e1⟩ | ⟨hno, e1⟩
      · obtain ⟨hb, hsm⟩ := dgot_same M M' s bs hf hm hh.items (hl ▸ hg')
        rcases h' with ⟨-, -, -, e2⟩ | ⟨hno', -⟩
        · simp only [Ending.returned.injEq, Value.tuple.injEq, Array.mk.injEq, List.cons.injEq, Value.int.injEq, and_true, true_and] at e1 e2
          obtain ⟨rfl, rfl⟩ := e1; obtain ⟨hc, rfl⟩ := e2
          exact ⟨rfl, Or.inr ⟨rfl, M, M', rfl, hc, hsm, hh, hh', hs⟩⟩
        · exact absurd ⟨hb, hsm.may.trans hm, hsm.frame.trans hf⟩ hno'
      · rcases h' with ⟨-, hm', hf', e2⟩ | ⟨-, e2⟩
        · obtain ⟨i1, i2⟩ := inner_len M' bs n hf' hl
          have hsm := got_same M' M (inner bs n) i1 hm' hh'.items (by rw [i2]; exact hg)
          exact absurd ⟨hsm.may.trans hm', hsm.frame.trans hf'⟩ hno
        · simp only [Ending.returned.injEq, Value.tuple.injEq, Array.mk.injEq, List.cons.injEq, Value.int.injEq, and_true, true_and] at e1 e2
          obtain ⟨rfl, rfl⟩ := e1; obtain ⟨-, rfl⟩ := e2
          exact ⟨rfl, Or.inl ⟨by decide, rfl⟩⟩
theorem anyV_same {M M' : MsgV} (h : SameM M M') : anyV M' = valM M' := by
  cases M <;> cases M' <;> first | exact h.elim | rfl
set_option maxHeartbeats 6400000 in
theorem msgReads_any (a : Option Addr) (n cap : Nat) (bs : List Nat) (w : World) (h : HoldsB w a n bs) (hnil : a = none → n = 0 ∧ cap = 0) (hc : n ≤ cap) (hn : n ≤ 9223372036854775807) :
    Calls Try.prog 4 #[.slice a n cap] w fun e w' => e = .returned (.bool true) ∧ Below w.heap.size w w' := by
  by_cases hbig : 1100 < n
  · have d1 : decide ((1100 : Int) < (n : Int)) = true := decide_eq_true (by omega)
    clear h hnil hbig
    go_enter Try.func4, Try.ntmps4
    go_wp2_with fail
    refine (awake15_any _).mono ?_
    rintro e w' ⟨rfl, hb⟩
    go_wp2_with fail
    go_ret
    exact ⟨rfl, hb⟩
  have d1 : decide ((1100 : Int) < (n : Int)) = false := decide_eq_false (by omega)
  have n11 : n ≤ 1100 := by omega
  have N11 := Lib.hid n11
  have CL := Lib.hid (lendBytes_any a n cap (bytesV bs) w h.values hnil (by omega) (bytesV_one _))
  have HL := Lib.hid h.len
  have HB := Lib.hid h.2
  have HH := Lib.hid h
  have HCC := Lib.hid hc
  have HI := Lib.hid rd_size15
  obtain ⟨B, hB⟩ : ∃ B, w.heap.size = B := ⟨_, rfl⟩
  have HBE := Lib.hid hB
  rw [hB] at CL
  have LV := Lib.hid (show (bytesV bs).length = n from by rw [bytesV_length]; exact h.len)
  clear h hnil hbig hB n11 hc
  go_enter Try.func4, Try.ntmps4
  go_wp2_with fail
  with_reducible refine CL.out.mono ?_
  rintro e w1 ⟨rfl, hb, hr⟩
  have R1 := Lib.hid hr
  have B1 := Lib.hid (show Below w.heap.size w w1 from HBE.out.symm ▸ hb)
  have CD1 := Lib.hid (decode_any (some ⟨B, 0, none⟩) n (n + 3) bs w1 (roomy_bytes HL.out HB.out hr) (by have := N11.out; omega) (by omega))
  clear hb hr CL
  go_wp2_with fail
  with_reducible refine CD1.out.mono ?_
  rintro e w2 hd
  obtain ⟨V, ev, rfl, hd2⟩ := dec_form hd
  clear hd
  have hd := hd2
  clear hd2
  have D2 := Lib.hid hd
  have R2 := Lib.hid (R1.out.below hd.1)
  have B2 := Lib.hid (B1.out.trans (hd.1.mono B1.out.size))
  have CR1 := Lib.hid (dDecode_any a n cap bs w2 (HH.out.below B2.out) N11.out HCC.out)
  clear hd CD1 R1 B1
  go_wp2_with fail
  with_reducible refine CR1.out.mono ?_
  rintro e w3 hd
  obtain ⟨cs, ev', rfl, h27, hone, hd2⟩ := ddec_form hd
  clear hd
  have hd := hd2
  clear hd2
  obtain ⟨hee, hag⟩ := reads_agree HL.out D2.out hd
  subst hee
  have AG := Lib.hid hag
  have H27 := Lib.hid h27; have HONE := Lib.hid hone
  have R3 := Lib.hid (R2.out.below hd.1)
  have B3 := Lib.hid (B2.out.trans (hd.1.mono B2.out.size))
  have BE := Lib.hid hd.1
  have HQC := Lib.hid (heap_alloc_new w3 (.cells #[.int .i64 0, .int .i64 0, .int .i64 0, .int .i64 0, .int .i64 0, .int .i64 0, .int .i64 0, .int .i64 0, .int .i64 0, .int .i64 0, .int .i64 0, .string ⟨#[]⟩, .int .i64 0, .int .i64 0, .bool false, .int .i64 0, .string ⟨#[]⟩, .int .i64 0, .int .i64 0, .int .i64 0, .int .i64 0, .int .i64 0, .int .i64 0, .slice .none 0 0, .bool false, .int .i64 0, .int .i64 0] 46))
  clear hd hag h27 hone CR1 R2 B2 D2
  go_upto_region 6 with (first | (refine wpList_store_row rfl 46 (.tmp 6) (.tmp 22) rfl w3.heap.size cs rfl rfl 46 #[.int .i64 0, .int .i64 0, .int .i64 0, .int .i64 0, .int .i64 0, .int .i64 0, .int .i64 0, .int .i64 0, .int .i64 0, .int .i64 0, .int .i64 0, .string ⟨#[]⟩, .int .i64 0, .int .i64 0, .bool false, .int .i64 0, .string ⟨#[]⟩, .int .i64 0, .int .i64 0, .int .i64 0, .int .i64 0, .int .i64 0, .int .i64 0, .slice .none 0 0, .bool false, .int .i64 0, .int .i64 0] HQC.out (by rw [H27.out]; exact HI.out) (by rw [H27.out]; rfl) HONE.out ?_) | fail)
  obtain ⟨w4, hw4⟩ : ∃ w4, (w3.alloc (.cells #[.int .i64 0, .int .i64 0, .int .i64 0, .int .i64 0, .int .i64 0, .int .i64 0, .int .i64 0, .int .i64 0, .int .i64 0, .int .i64 0, .int .i64 0, .string ⟨#[]⟩, .int .i64 0, .int .i64 0, .bool false, .int .i64 0, .string ⟨#[]⟩, .int .i64 0, .int .i64 0, .int .i64 0, .int .i64 0, .int .i64 0, .int .i64 0, .slice .none 0 0, .bool false, .int .i64 0, .int .i64 0] 46)).setRow w3.heap.size cs = w4 := ⟨_, rfl⟩
  have HQ4 := Lib.hid (show w4.heap[w3.heap.size]? = some (.cells cs 46 (0, 0)) from hw4 ▸ setRow_heap _ _ _ _ _ _ HQC.out)
  have b34 : Below w3.heap.size w3 w4 := hw4 ▸ below_setRow (below_one w3 _) (Nat.le_refl _) cs
  rw [hw4]
  have R4 := Lib.hid (R3.out.below b34)
  have B4 := Lib.hid (B3.out.trans (b34.mono B3.out.size))
  have AG4 := Lib.hid (show Agree V cs ev' w4 w4 from AG.out.imp id (fun ⟨h0, M, M', h1, h2, h3, h4, h5, h6⟩ => ⟨h0, M, M', h1, h2, h3, (h4.below BE.out).below b34, h5.below b34, h6⟩))
  obtain ⟨q, hq⟩ : ∃ q, w3.heap.size = q := ⟨_, rfl⟩
  have QB := Lib.hid (show B < q from by rw [← hq]; exact R3.out.lt)
  rw [hq] at HQ4
  try simp only [hq]
  clear hw4 b34 HQC R3 B3 hq AG BE
  have CV := Lib.hid (ovgBytes_any w.heap.size (some ⟨B, 0, none⟩) n (n + 3) (bytesV bs) w4 (base_less15 (roomy_own15 R4.out LV.out (by have := N11.out; unfold maxLen; omega)) (by rw [HBE.out]; omega)) B4.out.size (by have := N11.out; omega))
  go_wp2_with fail
  with_reducible refine CV.out.mono ?_
  rintro e w5 ⟨rfl, hb, hg⟩
  have B5 := Lib.hid (B4.out.trans hb)
  have tg : Turn (fun k => k = B) w4 w5 := turn_weak (turn_grown15 hg) (fun k hk => by injection hk)
  have HQ5 := Lib.hid (heap_turn HQ4.out tg (by have := QB.out; omega))
  have AG5 := Lib.hid (show Agree V cs ev' w5 w5 from AG4.out.imp id (fun ⟨h0, M, M', h1, h2, h3, h4, h5, h6⟩ => ⟨h0, M, M', h1, h2, h3, heldM_turn h4 tg (held_apart HL.out R4.out h4), heldM_turn h5 tg (held_apart HL.out R4.out h5), h6⟩))
  clear hb hg tg CV R4 B4 HQ4 AG4
  go_wp2_with fail
  refine (num15r_any _ _).mono ?_
  rintro e w6 ⟨rfl, rfl⟩
  rcases AG5.out with ⟨hne, rfl⟩ | ⟨rfl, M, M', rfl, hcs, hsm, hh, hh', hs⟩
  · have k1 : (ev' != 0) = true := by rw [bne_iff_ne]; exact hne
    have k2 : (ev' == 0) = false := by rw [beq_eq_false_iff_ne]; exact hne
    clear hne AG5
    go_wp2_with fail
    refine (awake15_any _).mono ?_
    rintro e w' ⟨rfl, hb⟩
    have B8 := Lib.hid (B5.out.trans (hb.mono B5.out.size))
    clear hb
    go_wp2_with fail
    go_ret
    exact ⟨rfl, B8.out⟩
  · obtain ⟨V, hV⟩ : ∃ V, valM M = V := ⟨_, rfl⟩
    rw [hV]
    have HV := Lib.hid hV
    have CA := Lib.hid (hcs ▸ any_all M' w5)
    have CS := Lib.hid (fun w6 (hb : Below w5.heap.size w5 w6) => (show Calls Try.prog 27 #[V, anyV M'] w6 (fun e w' => e = .returned (.bool true) ∧ Below w6.heap.size w6 w') from by
      rw [anyV_same hsm, ← HV.out]; exact sameM_yes M M' w6 hsm (hh.below hb) (hh'.below hb) hs))
    obtain ⟨V', hV'⟩ : ∃ V', anyV M' = V' := ⟨_, rfl⟩
    rw [hV'] at CA CS
    clear AG5 hcs hsm hh hh' hs hV hV'
    go_wp2_with (first | (refine wpList_load_row rfl 46 (.tmp 6) rfl q rfl 46 cs (0, 0) _ HQ5.out Try.underlying46 rfl (by rw [H27.out]; exact HI.out) ?_) | fail)
    with_reducible refine CA.out.mono ?_
    rintro e w6 ⟨rfl, hb6⟩
    have B6 := Lib.hid (B5.out.trans (hb6.mono B5.out.size))
    have CS6 := Lib.hid (CS.out w6 hb6)
    clear hb6 CA CS B5
    go_wp2_with fail
    with_reducible refine CS6.out.mono ?_
    rintro e w7 ⟨rfl, hb7⟩
    have B7 := Lib.hid (B6.out.trans (hb7.mono B6.out.size))
    clear hb7 CS6 B6
    go_wp2_with fail
    refine (awake15_any _).mono ?_
    rintro e w' ⟨rfl, hb⟩
    have B8 := Lib.hid (B7.out.trans (hb.mono B7.out.size))
    clear hb
    go_wp2_with fail
    go_ret
    exact ⟨rfl, B8.out⟩
open Go.ChangeShapes Go.WideShapes Go.ChangeAt in
theorem msgReads_walk {H : Type} {enc : TypeId × Value → H} (W : World) (base : Nat) (v0 : Value) (d0 : DataW H) (p0 : List MemPlace)
    (h0 : DataW.Trod enc Try.prog W 0 (fun _ => true) true 39 v0 d0 p0)
    (o0 : Value.okWide Try.prog W .any base 39 v0) :
    Calls Try.prog 4 #[v0] W fun e w' => e = .returned (.bool true) ∧ RowKit.Below W.heap.size W w' := by
  obtain ⟨a, n, cap, xs, rfl, hh, hnil, h3, h4⟩ := open_bytes_arg o0 h0
  exact msgReads_any a n cap xs W hh hnil h3 (by unfold maxLen at h4; omega)
end Go.Proofs.Ythboiklcjpnhbaa
