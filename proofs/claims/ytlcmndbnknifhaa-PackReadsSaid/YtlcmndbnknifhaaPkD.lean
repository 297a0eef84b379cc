/- texts joined -/
import Derived.Test.YtlcmndbnknifhaaPkC
import Derived.Test.YtlcmndbnknifhaaPkA
import Derived.Test.YtlcmndbnknifhaaPkB
import Derived.Deep.RegionHeld3
import Derived.Test.YtlcmndbnknifhaaChecked
import Derived.WalkLawsBesides
import Derived.WalkSpells
import Derived.Outline
/- pack: contracts in the laws' forms; awake -/
namespace Go.Proofs.Ytlcmndbnknifhaa
open Go.RowKit
set_option linter.unusedVariables false
set_option maxRecDepth 20000
theorem decode_yes (a : Option Addr) (n cap : Nat) (bs : List Nat) (ts : List Tx) (st : List GN) {w0 : World} (w : World) (hw : Below w0.heap.size w0 w) (h : HoldsB w a n bs) (hc : n ≤ cap) (hn : n ≤ 1048576) (hd : decS bs = some ts) (hst : grS ts = st) :
    Calls Try.prog 18 #[.slice a n cap] w fun e w' => ∃ g S, e = .returned (.tuple #[.pointer (some ⟨g, 0, none⟩), .int .i64 0]) ∧ CtxG w0 w' g st S ∧ Below w.heap.size w w' := by
  refine (decode_any a n cap bs w h hc hn).mono ?_
  rintro e w' ⟨hb, hr⟩
  rw [hd] at hr
  obtain ⟨g, S, rfl, C⟩ := hr
  subst hst
  exact ⟨g, S, rfl, ⟨C.G, fun k hk => Nat.le_trans hw.size (C.s k hk), hw.trans (hb.mono hw.size)⟩, hb⟩
theorem decode_no (a : Option Addr) (n cap : Nat) (bs : List Nat) (x : Int) (w : World) (h : HoldsB w a n bs) (hc : n ≤ cap) (hn : n ≤ 1048576) (hd : decS bs = none) (hx : (if openB bs then (8 : Int) else 9) = x) :
    Calls Try.prog 18 #[.slice a n cap] w fun e w' => e = .returned (.tuple #[.pointer none, .int .i64 x]) ∧ Below w.heap.size w w' := by
  refine (decode_any a n cap bs w h hc hn).mono ?_
  rintro e w' ⟨hb, hr⟩
  rw [hd] at hr
  subst hx
  exact ⟨hr, hb⟩
theorem imgB_lt (st : List GN) : ∀ b ∈ imgB st, b < 256 := sealB_lt _ (bodyB_lt _)
/-- Of, its bytes named -/
theorem pOf_c (a : Option Addr) (n cap : Nat) (ts : List Tx) (I : List Nat) (m : Nat) {w0 : World} (w : World) (hw : Below w0.heap.size w0 w) (hh : HoldsT w a n ts) (hc : n ≤ cap) (hn : n ≤ 9223372036854775807) (hv : goodV ts = 0) (hI : imgB (grS ts) = I) (hm : I.length = m) :
    Calls Try.prog 10 #[.slice a n cap] w fun e w' => ∃ a' c', e = .returned (.tuple #[.slice a' m c', .int .i64 0]) ∧ w'.ownsRow w0.heap.size 5 1 (.slice a' m c') m (bytesV I) ∧ HoldsB w' a' m I ∧ m ≤ c' ∧ Below w0.heap.size w0 w' ∧ Below w.heap.size w w' := by
  subst hI hm
  refine (pOf_good a n cap ts w hh hc hn (fun t ht => by have := good_sizes hv t ht; omega) hv).mono ?_
  rintro e w' ⟨a2, c2, rfl, h1, h2, -⟩
  exact ⟨a2, c2, rfl, base_less9 h1 hw.size, holdsB_of_values (owns_holds h1) (imgB_lt _), (owns_none h1).2, hw.trans (h2.mono hw.size), h2⟩
/-- Encode of the words' graph, its bytes named -/
theorem encode_c (ts : List Tx) (st : List GN) (I : List Nat) (m : Nat) (hst : grS ts = st) {w0 : World} {g : Nat} {S : Nat → Prop} (w : World) (c : CtxG w0 w g st S) (hv : goodV ts = 0) (hI : imgB st = I) (hm : I.length = m) :
    Calls Try.prog 15 #[.pointer (some ⟨g, 0, none⟩)] w fun e w' => ∃ a' c', e = .returned (.tuple #[.slice a' m c', .int .i64 0]) ∧ HoldsB w' a' m I ∧ m ≤ c' ∧ Below w.heap.size w w' ∧ w'.ownsRow w.heap.size 5 1 (.slice a' m c') m (bytesV I) := by
  subst hI hm hst
  refine (encode_of g ts S w c.G hv (fun t ht => by have := good_sizes hv t ht; omega)).mono ?_
  rintro e w' ⟨a2, c2, rfl, h1, h2, -⟩
  exact ⟨a2, c2, rfl, holdsB_of_values (owns_holds h1) (imgB_lt _), (owns_none h1).2, h2, h1⟩
theorem imgB_len {ts : List Tx} (h : goodV ts = 0) : 10 ≤ (imgB (grS ts)).length ∧ (imgB (grS ts)).length ≤ 524004 := by
  obtain ⟨h1, h2⟩ := grS_edges h
  have h3 := bodyB_len h2 (by omega)
  unfold imgB
  rw [sealB_len]
  refine ⟨?_, by omega⟩
  unfold bodyB
  rw [List.length_append, List.length_append, Cod.bytesOf_length]
  simp only [List.length_cons, List.length_nil]
  omega
theorem grS_none : grS [] = [⟨[], false, []⟩] := by
  unfold grS reachF
  rfl
theorem img_none : ∃ I, imgB (grS []) = I ∧ I.length = 13 ∧ I.getD 0 0 = 73 ∧ I.getD 5 0 = 1 ∧ decS I = some [] := by
  refine ⟨imgB (grS []), rfl, ?_, ?_, ?_, decS_img (by decide)⟩
  · rw [grS_none]; unfold imgB; rw [sealB_len]; rfl
  · rw [grS_none]; unfold imgB sealB; rfl
  · rw [grS_none]; unfold imgB sealB; rfl
theorem bytesV_at {I : List Nat} {i : Nat} (h : i < I.length) : (bytesV I).getD i undef = .int .u8 ((I.getD i 0 : Nat) : Int) := by
  unfold bytesV
  simp [List.getD_eq_getElem?_getD, List.getElem?_eq_getElem h]
theorem cell_at9 {w : World} {B : Nat} {q c m : Nat} {I : List Nat} (h : w.ownsRow B 5 1 (.slice (some ⟨q, 0, none⟩) m c) m (bytesV I)) (i : Nat) (hi : i < m) (hl : I.length = m) (v : Nat) (hv : I.getD i 0 = v) : w.cell? ⟨q, i, none⟩ = some (.int .u8 (v : Int)) := by
  have h1 := owns_holds h
  obtain ⟨b, o, e, hc⟩ := h1.2 (by omega)
  injection e with e
  injection e with e1 e2
  subst e1 e2
  have := hc i hi
  rw [Nat.zero_add, bytesV_at (by omega), hv] at this
  exact this
set_option maxHeartbeats 1600000 in
theorem awake9_any (w : World) : Calls Try.prog 9 #[] w fun e w' => e = .returned (.bool true) ∧ Below w.heap.size w w' := by
  obtain ⟨I, hI, h13, h0, h5, hD⟩ := img_none
  have CO := Lib.hid (pOf_c none 0 0 [] I 13 (w0 := w) w (Below.refl _ _) (HoldsT.nil _ _) (by omega) (by omega) (by decide) hI h13)
  have DI := Lib.hid (fun (w1 : World) q c (hb : Below w.heap.size w w1) (h : HoldsB w1 (some ⟨q, 0, none⟩) 13 I) (hc : 13 ≤ c) => decode_yes (some ⟨q, 0, none⟩) 13 c I [] [⟨[], false, []⟩] (w0 := w) w1 hb h hc (by omega) hD grS_none)
  have I13 := Lib.hid h13; have I0 := Lib.hid h0; have I5 := Lib.hid h5
  clear hI h13 h0 h5 hD
  go_enter Try.func9, Try.ntmps9
  go_wp2_with fail
  with_reducible refine CO.out.mono ?_
  rintro e w1 ⟨a1, c1, rfl, o1, hh, hc, hb, -⟩
  obtain ⟨q, cp, e1⟩ := Joins.ownsRow_form o1 (by omega)
  simp only [Value.slice.injEq] at e1
  obtain ⟨e1, -, -⟩ := e1
  subst e1
  have x0 := cell_at9 o1 0 (by omega) I13.out 73 I0.out
  have x5 := cell_at9 o1 5 (by omega) I13.out 1 I5.out
  have CD := Lib.hid (DI.out w1 q c1 hb hh hc)
  have n13 : 13 ≤ c1 := hc
  clear o1 hh hc hb CO DI I13 I0 I5
  go_wp2_with fail
  with_reducible refine CD.out.mono ?_
  rintro e w2 ⟨g, S, rfl, C, -⟩
  have C2 := Lib.hid C
  have CN := Lib.hid (gNodes_c 1 w2 C rfl)
  clear C CD x0 x5
  go_wp2_with fail
  with_reducible refine CN.out.mono ?_
  rintro e w3 ⟨rfl, rfl⟩
  go_wp2_with fail
  go_ret
  exact ⟨rfl, C2.out.b⟩
end Go.Proofs.Ytlcmndbnknifhaa
/- pack: an image tells its words -/
namespace Go.Proofs.Ytlcmndbnknifhaa
open Go.RowKit
set_option linter.unusedVariables false
set_option maxRecDepth 20000
theorem gWords_c9 (ts : List Tx) (m : Nat) {st : List GN} (G : GOk st ts) (hl : ts.length ≤ 60) (hm : ts.length = m) {w0 : World} {g : Nat} {S : Nat → Prop} (w : World) (c : CtxG w0 w g st S) :
    Calls Try.prog 22 #[.pointer (some ⟨g, 0, none⟩)] w fun e w' => ∃ a' c', e = .returned (.slice a' m c') ∧ HoldsT w' a' m ts ∧ Below w.heap.size w w' := by
  subst hm
  have h := gWords_any g st ts G S w c.G
  rw [words_all hl] at h
  refine h.mono ?_
  rintro e w' ⟨a, c2, rfl, ho, hb⟩
  exact ⟨a, c2, rfl, HoldsT.own ho, hb⟩
theorem sameT_yes9 (a1 a2 : Option Addr) (n c1 c2 : Nat) (z : List Tx) (w : World) (h1 : HoldsT w a1 n z) (h2 : HoldsT w a2 n z) (hl : n ≤ 1048576) :
    Calls Try.prog 21 #[.slice a1 n c1, .slice a2 n c2] w fun e w' => e = .returned (.bool true) ∧ Below w.heap.size w w' := sameTexts_yes a1 a2 n c1 c2 z w h1 h2 (by omega)
theorem sameB_yes9 (a1 a2 : Option Addr) (n c1 c2 : Nat) (z : List Nat) (w : World) (h1 : HoldsB w a1 n z) (h2 : HoldsB w a2 n z) (hl : n ≤ 1048576) :
    Calls Try.prog 12 #[.slice a1 n c1, .slice a2 n c2] w fun e w' => e = .returned (.bool true) ∧ Below w.heap.size w w' := by
  have := sameB_any a1 a2 n c1 n c2 z z w h1 h2 (by omega) (by omega)
  rw [decide_eq_true rfl] at this
  refine this.mono ?_
  rintro e w' ⟨rfl, m, rfl⟩
  exact ⟨rfl, below_drewN _ _⟩
set_option maxHeartbeats 3200000 in
theorem packBack_any (a : Option Addr) (n cap : Nat) (ts : List Tx) (w : World) (hh : HoldsT w a n ts) (hc : n ≤ cap) (hn : n ≤ 9223372036854775807) (hsz : ∀ t ∈ ts, t.size ≤ 9223372036854775807) :
    Calls Try.prog 5 #[.slice a n cap] w fun e w' => e = .returned (.bool true) ∧ Below w.heap.size w w' := by
  have CG := Lib.hid (great_any a n cap ts w hh hn hsz)
  have HH := Lib.hid hh
  have HL := Lib.hid hh.len
  by_cases q0 : greatB ts = true
  · rw [q0] at CG
    go_enter Try.func5, Try.ntmps5
    go_wp2_with fail
    refine CG.out.mono ?_
    rintro e w1 ⟨rfl, hb⟩
    have B1 := Lib.hid hb
    clear hb
    go_wp2_with fail
    refine (awake9_any _).mono ?_
    rintro e w' ⟨rfl, hb⟩
    have B2 := Lib.hid (B1.out.trans (hb.mono B1.out.size))
    clear hb
    go_wp2_with fail
    go_ret
    exact ⟨rfl, B2.out⟩
  have q0' : greatB ts = false := by simpa using q0
  rw [q0'] at CG
  obtain ⟨l80, hsm⟩ := great_no_iff.1 q0'
  have hsm : ∀ t ∈ ts, t.size ≤ 100 := hsm
  by_cases q2 : goodV ts = 0
  · obtain ⟨I, hI⟩ : ∃ I, imgB (grS ts) = I := ⟨_, rfl⟩
    obtain ⟨m, hm⟩ : ∃ m, I.length = m := ⟨_, rfl⟩
    have hl := imgB_len q2
    rw [hI, hm] at hl
    obtain ⟨m10, m52⟩ := hl
    have OK := Lib.hid (grS_ok q2 hsm)
    have hD := decS_img q2
    rw [hI] at hD
    have l60 := (goodV_zero q2).1
    obtain ⟨st, hst⟩ : ∃ st, grS ts = st := ⟨_, rfl⟩
    have CO := Lib.hid (fun (w1 : World) (hb : Below w.heap.size w w1) => pOf_c a n cap ts I m (w0 := w) w1 hb (HH.out.below hb) hc hn q2 hI hm)
    have CD := Lib.hid (fun (w1 : World) a1 c1 (hb : Below w.heap.size w w1) (h : HoldsB w1 a1 m I) (hc : m ≤ c1) => decode_yes a1 m c1 I ts st (w0 := w) w1 hb h hc (by omega) hD hst)
    have CE := Lib.hid (fun g S (w1 : World) (c : CtxG w w1 g st S) => encode_c ts st I m hst w1 c q2 (hst ▸ hI) hm)
    have nl : ts.length = n := HL.out
    have CW := Lib.hid (fun g S (w1 : World) (c : CtxG w w1 g st S) => gWords_c9 ts n (hst ▸ OK.out) l60 nl w1 c)
    have n60 : n ≤ 60 := by omega
    clear hI hm hD hst q2 hsm q0 q0' nl l60 hsz hh
    have e0 : ((m : Int) == 0) = false := by rw [beq_eq_false_iff_ne]; omega
    go_enter Try.func5, Try.ntmps5
    go_wp2_with fail
    with_reducible refine CG.out.mono ?_
    rintro e w1 ⟨rfl, hb⟩
    have CO1 := Lib.hid (CO.out w1 hb)
    clear hb CG CO
    go_wp2_with fail
    with_reducible refine CO1.out.mono ?_
    rintro e w2 ⟨a2, c2, rfl, -, h2, hc2, hb, -⟩
    have H2 := Lib.hid h2
    have B2 := Lib.hid hb
    have CD1 := Lib.hid (CD.out w2 a2 c2 hb h2 hc2)
    clear h2 hc2 hb CO1 CD
    go_wp2_with fail
    with_reducible refine CD1.out.mono ?_
    rintro e w3 ⟨g, S, rfl, C, hb⟩
    have C3 := Lib.hid C
    have H3 := Lib.hid (H2.out.below hb)
    have CE1 := Lib.hid (CE.out g S w3 C)
    clear C hb CD1 CE H2
    go_wp2_with fail
    with_reducible refine CE1.out.mono ?_
    rintro e w4 ⟨a4, c4, rfl, h4, hc4, hb, -⟩
    have C4 := Lib.hid (C3.out.more hb)
    have H4 := Lib.hid (H3.out.below hb)
    have I4 := Lib.hid h4
    have CW1 := Lib.hid (CW.out g S w4 C4.out)
    clear h4 hc4 hb CE1 CW C3 H3
    go_wp2_with fail
    with_reducible refine CW1.out.mono ?_
    rintro e w5 ⟨a5, c5, rfl, h5, hb⟩
    have C5 := Lib.hid (C4.out.more hb)
    have H5 := Lib.hid (H4.out.below hb)
    have I5 := Lib.hid (I4.out.below hb)
    have CS := Lib.hid (sameT_yes9 a5 a n c5 cap ts w5 h5 (HH.out.below C5.out.b) (by omega))
    clear h5 hb CW1 C4 H4 I4
    go_wp2_with fail
    with_reducible refine CS.out.mono ?_
    rintro e w6 ⟨rfl, hb⟩
    have C6 := Lib.hid (C5.out.more hb)
    have CB := Lib.hid (sameB_yes9 a4 a2 m c4 c2 I w6 (I5.out.below hb) (H5.out.below hb) (by omega))
    clear hb CS C5 H5 I5
    go_wp2_with fail
    with_reducible refine CB.out.mono ?_
    rintro e w7 ⟨rfl, hb⟩
    have C7 := Lib.hid (C6.out.more hb)
    clear hb CB C6
    go_wp2_with fail
    refine (awake9_any _).mono ?_
    rintro e w' ⟨rfl, hb⟩
    have C8 := Lib.hid (C7.out.more hb)
    clear hb
    go_wp2_with fail
    go_ret
    exact ⟨rfl, C8.out.b⟩
  · obtain ⟨v, hv⟩ : ∃ v, goodV ts = v := ⟨_, rfl⟩
    have hv0 : v ≠ 0 := by rw [← hv]; exact q2
    have CB := Lib.hid (fun (w1 : World) (hb : Below w.heap.size w w1) => pOf_bad a n cap ts v w1 (HH.out.below hb) hn hsz hv hv0)
    have hb1 : (v != 0) = true := by simpa using hv0
    clear hv q2
    go_enter Try.func5, Try.ntmps5
    go_wp2_with fail
    with_reducible refine CG.out.mono ?_
    rintro e w1 ⟨rfl, hb⟩
    have B1 := Lib.hid hb
    have CB1 := Lib.hid (CB.out w1 hb)
    clear hb CG CB
    go_wp2_with fail
    with_reducible refine CB1.out.mono ?_
    rintro e w2 ⟨rfl, hb⟩
    have B2 := Lib.hid (B1.out.trans (hb.mono B1.out.size))
    clear hb B1 CB1
    go_wp2_with fail
    refine (awake9_any _).mono ?_
    rintro e w' ⟨rfl, hb⟩
    have B3 := Lib.hid (B2.out.trans (hb.mono B2.out.size))
    clear hb
    go_wp2_with fail
    go_ret
    exact ⟨rfl, B3.out⟩
open Go.ChangeShapes Go.WideShapes Go.ChangeAt in
theorem packBack_walk {H : Type} {enc : TypeId × Value → H} (W : World) (base : Nat) (v0 : Value) (d0 : DataW H) (p0 : List MemPlace)
    (h0 : DataW.Trod enc Try.prog W 0 (fun _ => true) true 22 v0 d0 p0)
    (o0 : Value.okWide Try.prog W .any base 22 v0) :
    Calls Try.prog 5 #[v0] W fun e w' => e = .returned (.bool true) ∧ RowKit.Below W.heap.size W w' := by
  obtain ⟨a0, n0, c0, t0, rfl, x0, y0, z0, b0, s0⟩ := open_texts_arg o0 h0
  exact packBack_any a0 n0 c0 t0 W x0 z0 b0 s0
end Go.Proofs.Ytlcmndbnknifhaa
/- contract of the document's 'one'; it is the runes that a range yields -/
namespace Go.Proofs.Ytlcmndbnknifhaa
open Go.RowKit
set_option linter.unusedVariables false
set_option maxRecDepth 20000
def oneV (s : ByteArray) (i : Nat) : Int × Int :=
  if byteS s i < 128 then ((byteS s i : Int), 1)
  else if (194 ≤ byteS s i ∧ byteS s i ≤ 223) ∧ moreP s (i + 1) then (((byteS s i : Int) - 192) * 64 + moreV s (i + 1), 2)
  else if (224 ≤ byteS s i ∧ byteS s i ≤ 239) ∧ moreP s (i + 1) ∧ moreP s (i + 2) then (((byteS s i : Int) - 224) * 4096 + moreV s (i + 1) * 64 + moreV s (i + 2), 3)
  else if (240 ≤ byteS s i ∧ byteS s i ≤ 244) ∧ moreP s (i + 1) ∧ moreP s (i + 2) ∧ moreP s (i + 3) then (((byteS s i : Int) - 240) * 262144 + moreV s (i + 1) * 4096 + moreV s (i + 2) * 64 + moreV s (i + 3), 4)
  else (0, 0)
theorem moreV_bd (s : ByteArray) (i : Nat) : 0 ≤ moreV s i ∧ moreV s i ≤ 63 := by
  unfold moreV
  split
  · rename_i h; unfold moreP at h; omega
  · omega
theorem more_lit (s : ByteArray) (i : Nat) (k : Int) (w : World) (hs : s.size ≤ 1048576) (hi : i ≤ 1048580) (p : Bool) (v : Int) (hk : (i : Int) = k) (hp : decide (moreP s i) = p) (hv : moreV s i = v) :
    Calls Try.prog 107 #[.string s, .int .i64 k] w fun e w' => e = .returned (.tuple #[.int .i32 v, .bool p]) ∧ w = w' := by
  subst hp hv hk; exact more_any s i w hs hi
def badP (r n : Int) : Prop := n = 0 ∨ ¬ goodP r ∨ (n = 3 ∧ r < 2048) ∨ (n = 4 ∧ r < 65536)
instance (r n : Int) : Decidable (badP r n) := by unfold badP; infer_instance
set_option maxHeartbeats 1600000 in
theorem one_decode (s : ByteArray) (i : Nat) (hi : i < s.size) :
    (badP (oneV s i).1 (oneV s i).2 → (Utf8.decode s i).1 = 65533) ∧
    (¬ badP (oneV s i).1 (oneV s i).2 → (oneV s i).1 = ((Utf8.decode s i).1 : Int) ∧ (oneV s i).2 = ((Utf8.decode s i).2 : Int) ∧ (Utf8.decode s i).1 ≠ 65533) := by
  rw [Lib.decode_at]
  have e1 : moreP s (i + 1) ↔ (1 < s.size - i ∧ 128 ≤ byteS s (i + 1) ∧ byteS s (i + 1) ≤ 191) := by unfold moreP; omega
  have e2 : moreP s (i + 2) ↔ (2 < s.size - i ∧ 128 ≤ byteS s (i + 2) ∧ byteS s (i + 2) ≤ 191) := by unfold moreP; omega
  have e3 : moreP s (i + 3) ↔ (3 < s.size - i ∧ 128 ≤ byteS s (i + 3) ∧ byteS s (i + 3) ≤ 191) := by unfold moreP; omega
  have l0 := byteS_lt s i
  have l1 := byteS_lt s (i + 1)
  have l2 := byteS_lt s (i + 2)
  have l3 := byteS_lt s (i + 3)
  unfold oneV moreV
  simp only [e1, e2, e3]
  show (_ → (Lib.decodeN (s.size - i) (byteS s i) (byteS s (i + 1)) (byteS s (i + 2)) (byteS s (i + 3))).1 = 65533) ∧ (_ → _ = ((Lib.decodeN (s.size - i) (byteS s i) (byteS s (i + 1)) (byteS s (i + 2)) (byteS s (i + 3))).1 : Int) ∧ _ = ((Lib.decodeN (s.size - i) (byteS s i) (byteS s (i + 1)) (byteS s (i + 2)) (byteS s (i + 3))).2 : Int) ∧ (Lib.decodeN (s.size - i) (byteS s i) (byteS s (i + 1)) (byteS s (i + 2)) (byteS s (i + 3))).1 ≠ 65533)
  have hn : 0 < s.size - i := by omega
  clear e1 e2 e3
  generalize s.size - i = n at *
  generalize byteS s i = b0 at *
  generalize byteS s (i + 1) = b1 at *
  generalize byteS s (i + 2) = b2 at *
  generalize byteS s (i + 3) = b3 at *
  unfold Lib.decodeN badP goodP
  by_cases h0 : b0 < 128
  · simp only [h0, if_true]
    refine ⟨fun h => ?_, fun h => ⟨?_, ?_, ?_⟩⟩ <;> first | trivial | omega
  simp only [h0, if_false]
  by_cases hA : (194 ≤ b0 ∧ b0 ≤ 223) ∧ 1 < n ∧ 128 ≤ b1 ∧ b1 ≤ 191
  · obtain ⟨⟨a1, a2⟩, a3, a4, a5⟩ := hA
    have c1 : b0 / 32 = 6 ∧ 1 < n ∧ b1 / 64 = 2 := by omega
    have c2 : b0 % 32 * 64 + b1 % 64 ≥ 128 := by omega
    rw [if_pos ⟨⟨a1, a2⟩, a3, a4, a5⟩, if_pos c1, if_pos c2, if_pos ⟨a3, a4, a5⟩]
    dsimp only
    refine ⟨fun h => ?_, fun h => ⟨?_, ?_, ?_⟩⟩ <;> omega
  rw [if_neg hA]
  by_cases hB : (224 ≤ b0 ∧ b0 ≤ 239) ∧ (1 < n ∧ 128 ≤ b1 ∧ b1 ≤ 191) ∧ 2 < n ∧ 128 ≤ b2 ∧ b2 ≤ 191
  · obtain ⟨⟨a1, a2⟩, ⟨a3, a4, a5⟩, a6, a7, a8⟩ := hB
    have c0 : ¬ (b0 / 32 = 6 ∧ 1 < n ∧ b1 / 64 = 2) := by omega
    have c1 : b0 / 16 = 14 ∧ (1 < n ∧ b1 / 64 = 2) ∧ 2 < n ∧ b2 / 64 = 2 := by omega
    rw [if_pos ⟨⟨a1, a2⟩, ⟨a3, a4, a5⟩, a6, a7, a8⟩, if_neg c0, if_pos c1, if_pos ⟨a3, a4, a5⟩, if_pos ⟨a6, a7, a8⟩]
    clear c0 c1 hA
    split
    all_goals
      dsimp only
      refine ⟨fun h => ?_, fun h => ⟨?_, ?_, ?_⟩⟩ <;> omega
  rw [if_neg hB]
  by_cases hC : (240 ≤ b0 ∧ b0 ≤ 244) ∧ (1 < n ∧ 128 ≤ b1 ∧ b1 ≤ 191) ∧ (2 < n ∧ 128 ≤ b2 ∧ b2 ≤ 191) ∧ 3 < n ∧ 128 ≤ b3 ∧ b3 ≤ 191
  · obtain ⟨⟨a1, a2⟩, ⟨a3, a4, a5⟩, ⟨a6, a7, a8⟩, a9, a10, a11⟩ := hC
    have c0 : ¬ (b0 / 32 = 6 ∧ 1 < n ∧ b1 / 64 = 2) := by omega
    have c1 : ¬ (b0 / 16 = 14 ∧ (1 < n ∧ b1 / 64 = 2) ∧ 2 < n ∧ b2 / 64 = 2) := by omega
    have c2 : b0 / 8 = 30 ∧ (1 < n ∧ b1 / 64 = 2) ∧ (2 < n ∧ b2 / 64 = 2) ∧ 3 < n ∧ b3 / 64 = 2 := by omega
    rw [if_pos ⟨⟨a1, a2⟩, ⟨a3, a4, a5⟩, ⟨a6, a7, a8⟩, a9, a10, a11⟩, if_neg c0, if_neg c1, if_pos c2, if_pos ⟨a3, a4, a5⟩, if_pos ⟨a6, a7, a8⟩, if_pos ⟨a9, a10, a11⟩]
    clear c0 c1 c2 hA hB
    split
    all_goals
      dsimp only
      refine ⟨fun h => ?_, fun h => ⟨?_, ?_, ?_⟩⟩ <;> omega
  rw [if_neg hC]
  refine ⟨fun _ => ?_, fun h => absurd (Or.inl rfl) h⟩
  by_cases d1 : b0 / 32 = 6 ∧ 1 < n ∧ b1 / 64 = 2
  · rw [if_pos d1, if_neg (by omega)]
  rw [if_neg d1]
  by_cases d2 : b0 / 16 = 14 ∧ (1 < n ∧ b1 / 64 = 2) ∧ 2 < n ∧ b2 / 64 = 2
  · omega
  rw [if_neg d2]
  by_cases d3 : b0 / 8 = 30 ∧ (1 < n ∧ b1 / 64 = 2) ∧ (2 < n ∧ b2 / 64 = 2) ∧ 3 < n ∧ b3 / 64 = 2
  · rw [if_pos d3, if_neg (by omega)]
  rw [if_neg d3]
end Go.Proofs.Ytlcmndbnknifhaa
/- contracts of the document's 'one' and Runes -/
namespace Go.Proofs.Ytlcmndbnknifhaa
open Go.RowKit
set_option linter.unusedVariables false
set_option maxRecDepth 20000
set_option maxRecDepth 100000 in
set_option maxHeartbeats 6400000 in
theorem one_any (s : ByteArray) (i : Nat) (w : World) (hs : s.size ≤ 1048576) (hi : i < s.size) :
    Calls Try.prog 95 #[.string s, .int .i64 i] w fun e w' => e = .returned (.tuple #[.int .i32 (oneV s i).1, .int .i64 (oneV s i).2]) ∧ w = w' := by
  have hx := byteS_at s i hi
  have hb := byteS_lt s i
  obtain ⟨p1, hp1⟩ : ∃ p, decide (moreP s (i + 1)) = p := ⟨_, rfl⟩
  obtain ⟨p2, hp2⟩ : ∃ p, decide (moreP s (i + 2)) = p := ⟨_, rfl⟩
  obtain ⟨p3, hp3⟩ : ∃ p, decide (moreP s (i + 3)) = p := ⟨_, rfl⟩
  have i1 : moreP s (i + 1) ↔ p1 = true := by rw [← hp1]; simp
  have i2 : moreP s (i + 2) ↔ p2 = true := by rw [← hp2]; simp
  have i3 : moreP s (i + 3) ↔ p3 = true := by rw [← hp3]; simp
  obtain ⟨A, hA⟩ : ∃ A, moreV s (i + 1) = A := ⟨_, rfl⟩
  obtain ⟨B, hB⟩ : ∃ A, moreV s (i + 2) = A := ⟨_, rfl⟩
  obtain ⟨C, hC⟩ : ∃ A, moreV s (i + 3) = A := ⟨_, rfl⟩
  have m1 := Lib.hid (more_lit s (i + 1) ((i : Int) + 1) w hs (by omega) p1 A (by omega) hp1 hA)
  have m2 := Lib.hid (more_lit s (i + 2) ((i : Int) + 2) w hs (by omega) p2 B (by omega) hp2 hB)
  have m3 := Lib.hid (more_lit s (i + 3) ((i : Int) + 3) w hs (by omega) p3 C (by omega) hp3 hC)
  have bA := moreV_bd s (i + 1); have bB := moreV_bd s (i + 2); have bC := moreV_bd s (i + 3)
  rw [hA] at bA; rw [hB] at bB; rw [hC] at bC
  unfold oneV
  simp only [i1, i2, i3]
  rw [hA, hB, hC]
  obtain ⟨x, hx2⟩ : ∃ x, byteS s i = x := ⟨_, rfl⟩
  rw [hx2] at hx hb
  rw [hx2]
  have j1 : IntKind.i64.wrap ((i : Int) + 1) = (i : Int) + 1 := IntWalk.i64_in _ (by omega)
  have j2 : IntKind.i64.wrap ((i : Int) + 2) = (i : Int) + 2 := IntWalk.i64_in _ (by omega)
  have j3 : IntKind.i64.wrap ((i : Int) + 3) = (i : Int) + 3 := IntWalk.i64_in _ (by omega)
  clear hx2 hA hB hC hp1 hp2 hp3 i1 i2 i3
  have hcase : x < 128 ∨ (128 ≤ x ∧ x < 194) ∨ (128 ≤ x ∧ 194 ≤ x ∧ x ≤ 223) ∨ (128 ≤ x ∧ 194 ≤ x ∧ 223 < x ∧ 224 ≤ x ∧ x ≤ 239) ∨ (128 ≤ x ∧ 194 ≤ x ∧ 223 < x ∧ 224 ≤ x ∧ 239 < x ∧ 240 ≤ x ∧ x ≤ 244) ∨ (128 ≤ x ∧ 194 ≤ x ∧ 223 < x ∧ 224 ≤ x ∧ 239 < x ∧ 240 ≤ x ∧ 244 < x) := by omega
  rcases hcase with c1 | ⟨c0, c1⟩ | ⟨c0, c1, c2⟩ | ⟨c0, c1, c2, c3, c4⟩ | ⟨c0, c1, c2, c3, c4, c5, c6⟩ | ⟨c0, c1, c2, c3, c4, c5, c6⟩
  · rw [if_pos c1]
    go_enter Try.func95, Try.ntmps95
    go_wp2_with fail
    refine m1.out.mono ?_
    rintro e w' ⟨rfl, rfl⟩
    go_wp2_with fail
    refine m2.out.mono ?_
    rintro e w' ⟨rfl, rfl⟩
    go_wp2_with fail
    refine m3.out.mono ?_
    rintro e w' ⟨rfl, rfl⟩
    go_wp2_with fail
    go_ret2
    exact ⟨rfl, rfl⟩
  · rw [if_neg (by omega), if_neg (by omega), if_neg (by omega), if_neg (by omega)]
    go_enter Try.func95, Try.ntmps95
    go_wp2_with fail
    refine m1.out.mono ?_
    rintro e w' ⟨rfl, rfl⟩
    go_wp2_with fail
    refine m2.out.mono ?_
    rintro e w' ⟨rfl, rfl⟩
    go_wp2_with fail
    refine m3.out.mono ?_
    rintro e w' ⟨rfl, rfl⟩
    go_wp2_with fail
    go_ret2
    exact ⟨rfl, rfl⟩
  · rw [if_neg (by omega)]
    cases p1
    · rw [if_neg (by simp), if_neg (by omega), if_neg (by omega)]
      go_enter Try.func95, Try.ntmps95
      go_wp2_with fail
      refine m1.out.mono ?_
      rintro e w' ⟨rfl, rfl⟩
      go_wp2_with fail
      refine m2.out.mono ?_
      rintro e w' ⟨rfl, rfl⟩
      go_wp2_with fail
      refine m3.out.mono ?_
      rintro e w' ⟨rfl, rfl⟩
      go_wp2_with fail
      go_ret2
      exact ⟨rfl, rfl⟩
    · rw [if_pos ⟨⟨c1, c2⟩, rfl⟩]
      go_enter Try.func95, Try.ntmps95
      go_wp2_with fail
      refine m1.out.mono ?_
      rintro e w' ⟨rfl, rfl⟩
      go_wp2_with fail
      refine m2.out.mono ?_
      rintro e w' ⟨rfl, rfl⟩
      go_wp2_with fail
      refine m3.out.mono ?_
      rintro e w' ⟨rfl, rfl⟩
      go_wp2_with fail
      go_ret2
      exact ⟨rfl, rfl⟩
  · rw [if_neg (by omega), if_neg (by omega)]
    by_cases hp : p1 = true ∧ p2 = true
    · obtain ⟨rfl, rfl⟩ := hp
      rw [if_pos ⟨⟨c3, c4⟩, rfl, rfl⟩]
      go_enter Try.func95, Try.ntmps95
      go_wp2_with fail
      refine m1.out.mono ?_
      rintro e w' ⟨rfl, rfl⟩
      go_wp2_with fail
      refine m2.out.mono ?_
      rintro e w' ⟨rfl, rfl⟩
      go_wp2_with fail
      refine m3.out.mono ?_
      rintro e w' ⟨rfl, rfl⟩
      go_wp2_with fail
      go_ret2
      exact ⟨rfl, rfl⟩
    · rw [if_neg (fun h => hp h.2), if_neg (by omega)]
      cases p1 <;> cases p2 <;> simp at hp
      all_goals
        clear hp
        go_enter Try.func95, Try.ntmps95
        go_wp2_with fail
        refine m1.out.mono ?_
        rintro e w' ⟨rfl, rfl⟩
        go_wp2_with fail
        refine m2.out.mono ?_
        rintro e w' ⟨rfl, rfl⟩
        go_wp2_with fail
        refine m3.out.mono ?_
        rintro e w' ⟨rfl, rfl⟩
        go_wp2_with fail
        go_ret2
        exact ⟨rfl, rfl⟩
  · rw [if_neg (by omega), if_neg (by omega), if_neg (by omega)]
    by_cases hp : p1 = true ∧ p2 = true ∧ p3 = true
    · obtain ⟨rfl, rfl, rfl⟩ := hp
      rw [if_pos ⟨⟨c5, c6⟩, rfl, rfl, rfl⟩]
      go_enter Try.func95, Try.ntmps95
      go_wp2_with fail
      refine m1.out.mono ?_
      rintro e w' ⟨rfl, rfl⟩
      go_wp2_with fail
      refine m2.out.mono ?_
      rintro e w' ⟨rfl, rfl⟩
      go_wp2_with fail
      refine m3.out.mono ?_
      rintro e w' ⟨rfl, rfl⟩
      go_wp2_with fail
      go_ret2
      exact ⟨rfl, rfl⟩
    · rw [if_neg (fun h => hp h.2)]
      cases p1 <;> cases p2 <;> cases p3 <;> simp at hp
      all_goals
        clear hp
        go_enter Try.func95, Try.ntmps95
        go_wp2_with fail
        refine m1.out.mono ?_
        rintro e w' ⟨rfl, rfl⟩
        go_wp2_with fail
        refine m2.out.mono ?_
        rintro e w' ⟨rfl, rfl⟩
        go_wp2_with fail
        refine m3.out.mono ?_
        rintro e w' ⟨rfl, rfl⟩
        go_wp2_with fail
        go_ret2
        exact ⟨rfl, rfl⟩
  · rw [if_neg (by omega), if_neg (by omega), if_neg (by omega), if_neg (by omega)]
    go_enter Try.func95, Try.ntmps95
    go_wp2_with fail
    refine m1.out.mono ?_
    rintro e w' ⟨rfl, rfl⟩
    go_wp2_with fail
    refine m2.out.mono ?_
    rintro e w' ⟨rfl, rfl⟩
    go_wp2_with fail
    refine m3.out.mono ?_
    rintro e w' ⟨rfl, rfl⟩
    go_wp2_with fail
    go_ret2
    exact ⟨rfl, rfl⟩
end Go.Proofs.Ytlcmndbnknifhaa
/- contract of the document's Runes of a text -/
namespace Go.Proofs.Ytlcmndbnknifhaa
open Go.RowKit
set_option linter.unusedVariables false
set_option maxRecDepth 20000
def RunesP (s : ByteArray) (w : World) (e : Ending) (w' : World) : Prop :=
  (0 ≤ lenS s ∧ ∃ a c, e = .returned (.tuple #[.slice a (runesS s).length c, .bool true]) ∧ HoldsI .i32 w' a (runesS s).length (intsN (runesS s)) ∧ (a = none → (runesS s).length = 0 ∧ c = 0) ∧ Below w.heap.size w w') ∨
  (lenS s < 0 ∧ e = .returned (.tuple #[.slice none 0 0, .bool false]) ∧ Below w.heap.size w w')
/-- the same, told by its memory -/
def RunesQ (s : ByteArray) (w : World) (e : Ending) (w' : World) : Prop :=
  (0 ≤ lenS s ∧ ∃ a c, e = .returned (.tuple #[.slice a (runesS s).length c, .bool true]) ∧ w'.ownsRow w.heap.size 21 1 (.slice a (runesS s).length c) (runesS s).length (runesV (intsN (runesS s))) ∧ Below w.heap.size w w') ∨
  (lenS s < 0 ∧ e = .returned (.tuple #[.slice none 0 0, .bool false]) ∧ Below w.heap.size w w')
theorem intsN_len (P : List Nat) : (intsN P).length = P.length := by simp [intsN]
theorem one_size (s : ByteArray) (i : Nat) : 0 ≤ (oneV s i).2 ∧ (oneV s i).2 ≤ 4 := by unfold oneV; split <;> (try split) <;> (try split) <;> (try split) <;> simp
theorem runesS_bad {s : ByteArray} {P : List Nat} {pos f : Nat} (hP : runesS s = P ++ runesN s f pos) (hlt : pos < s.size) (hf : s.size ≤ pos + f) (h : (Utf8.decode s pos).1 = 65533) : lenS s < 0 := by
  obtain ⟨g, rfl, hst, _⟩ := runesN_step s f pos hlt hf
  rw [hst, h] at hP
  rw [lenS_bad hP]; omega
set_option maxRecDepth 100000 in
set_option maxHeartbeats 6400000 in
theorem r1runesq_any (s : ByteArray) (w : World) (hs : s.size ≤ 1048576) :
    Calls Try.prog 78 #[.string s] w (RunesQ s w) := by
  obtain ⟨i0, hi, hz0, hz1, hz2⟩ := info_parts i32_info
  go_enter Try.func78, Try.ntmps78
  go_wp2_with fail
  go_loopw [4, 5] (fun lv iv wr => ∃ (pos f : Nat) (P : List Nat), s.size ≤ pos + f ∧ iv = .int .i64 pos ∧ pos ≤ s.size + 4 ∧ Hid (runesS s = P ++ runesN s f pos) ∧ Hid (∀ r ∈ P, r ≠ 65533) ∧ Hid (wr.ownsRow w.heap.size 21 1 lv P.length (runesV (intsN P))) ∧ Hid (Below w.heap.size w wr)) (fun _ iv _ => s.size - (intOf iv).toNat)
  case atStart => exact ⟨0, s.size, [], by omega, rfl, by omega, Lib.hid rfl, Lib.hid (by simp), Lib.hid (World.ownsRow_nil _ _ _ _), Lib.hid (Below.refl _ _)⟩
  case round =>
    obtain ⟨pos, f, P, hf, rfl, hpos, hP, hG, hO, hB⟩ := hrel
    by_cases hlt : pos < s.size
    · obtain ⟨d1, d2⟩ := one_decode s pos hlt
      have hbn := one_size s pos
      have hone := Lib.hid (one_any s pos wr hs hlt)
      obtain ⟨R, hR⟩ : ∃ R, (oneV s pos).1 = R := ⟨_, rfl⟩
      obtain ⟨N, hN⟩ : ∃ R, (oneV s pos).2 = R := ⟨_, rfl⟩
      rw [hR, hN] at d1 d2 hone
      rw [hN] at hbn
      clear hR hN
      have BAD := Lib.hid (fun h => runesS_bad hP.out hlt hf (d1 h))
      have GOOD := Lib.hid d2
      clear d1 d2
      have hgd := Lib.hid (good_any R wr)
      by_cases n0 : N = 0
      · have hneg := Lib.hid (BAD.out (Or.inl n0))
        have y1 : (N == 0) = true := by simp [n0]
        clear n0 hgd GOOD BAD
        go_wp2_with fail
        refine hone.out.mono ?_
        rintro e w' ⟨rfl, rfl⟩
        go_wp2_with fail
        go_ret2
        exact Or.inr ⟨hneg.out, rfl, hB.out⟩
      have y1 : (N == 0) = false := by simpa using n0
      by_cases gd : goodP R
      case neg =>
        have hneg := Lib.hid (BAD.out (Or.inr (Or.inl gd)))
        rw [decide_eq_false gd] at hgd
        clear gd GOOD BAD
        go_wp2_with fail
        refine hone.out.mono ?_
        rintro e w' ⟨rfl, rfl⟩
        go_wp2_with fail
        refine hgd.out.mono ?_
        rintro e w' ⟨rfl, rfl⟩
        go_wp2_with fail
        go_ret2
        exact Or.inr ⟨hneg.out, rfl, hB.out⟩
      rw [decide_eq_true gd] at hgd
      by_cases c3 : N = 3 ∧ R < 2048
      · have hneg := Lib.hid (BAD.out (Or.inr (Or.inr (Or.inl c3))))
        obtain ⟨c3, c4⟩ := c3
        subst c3
        clear gd GOOD BAD
        go_wp2_with fail
        refine hone.out.mono ?_
        rintro e w' ⟨rfl, rfl⟩
        go_wp2_with fail
        refine hgd.out.mono ?_
        rintro e w' ⟨rfl, rfl⟩
        go_wp2_with fail
        go_ret2
        exact Or.inr ⟨hneg.out, rfl, hB.out⟩
      by_cases c5 : N = 4 ∧ R < 65536
      · have hneg := Lib.hid (BAD.out (Or.inr (Or.inr (Or.inr c5))))
        obtain ⟨c5, c6⟩ := c5
        subst c5
        clear gd GOOD BAD
        go_wp2_with fail
        refine hone.out.mono ?_
        rintro e w' ⟨rfl, rfl⟩
        go_wp2_with fail
        refine hgd.out.mono ?_
        rintro e w' ⟨rfl, rfl⟩
        go_wp2_with fail
        go_ret2
        exact Or.inr ⟨hneg.out, rfl, hB.out⟩
      have hok := GOOD.out (fun h => by rcases h with h | h | h | h; exact n0 h; exact h gd; exact c3 h; exact c5 h)
      obtain ⟨g, rfl, hst, hg⟩ := runesN_step s f pos hlt hf
      have hwd := decode_width s pos hlt
      obtain ⟨r, hr⟩ : ∃ r, (Utf8.decode s pos).1 = r := ⟨_, rfl⟩
      obtain ⟨wd, hwd2⟩ : ∃ wd, (Utf8.decode s pos).2 = wd := ⟨_, rfl⟩
      rw [hr, hwd2] at hok hst; rw [hwd2] at hg hwd
      obtain ⟨hRr, rfl, hne⟩ := hok
      have HRr := Lib.hid hRr
      have hlen : P.length < s.size := by
        have h1 := congrArg List.length hP.out
        rw [hst, List.length_append, List.length_cons] at h1
        have := runesS_le s
        omega
      have HST := Lib.hid hst; have NE := Lib.hid hne
      have hN : wd = 1 ∨ wd = 2 ∨ wd = 3 ∨ wd = 4 := by omega
      have c3' : wd = 3 → (2048 : Int) ≤ R := by omega
      have c5' : wd = 4 → (65536 : Int) ≤ R := by omega
      clear hst hr hwd2 hne hRr GOOD BAD gd n0 c3 c5 y1
      rcases hN with hN | hN | hN | hN
      · clear c3' c5'
        subst hN
        go_wp2_with fail
        refine hone.out.mono ?_
        rintro e w' ⟨rfl, rfl⟩
        go_wp2_with fail
        refine hgd.out.mono ?_
        rintro e w' ⟨rfl, rfl⟩
        go_wp2_with (at_builtin; refine wpList_append_any rfl (.tmp 41) (.tmp 43) 121 rfl w.heap.size 21 i0 (.int .i32 0) 1 4 Try.underlying121 hi hz0 hz1 hz2 rfl (by decide) _ P.length _ rfl (hO.out.alloc _) _ 1 1 _ rfl (some_none _) rfl (one_new _ _ _ _) (one_int _ _) (by unfold maxLen; omega) (by omega) (by have := hB.out.size; simp; omega) ?_; intro a3 c3 w3 hown3 hb3 hnil3)
        rw [HRr.out, ← runesV_snoc] at hown3
        have O3 := Lib.hid hown3
        have B3 := Lib.hid ((hB.out.alloc hB.out.size _).trans hb3)
        clear hown3 hb3 hnil3 hO hB
        go_roundw
        case rel => exact ⟨pos + _, g, P ++ [r], hg, by go_num, by omega, Lib.hid (by rw [hP.out, HST.out]; simp), Lib.hid (by intro x hx; rcases List.mem_append.1 hx with hx | hx; exact hG.out x hx; simp at hx; rw [hx]; exact NE.out), by rw [List.length_append]; exact O3, B3⟩
        case measure => simp [intOf]; omega
      · clear c3' c5'
        subst hN
        go_wp2_with fail
        refine hone.out.mono ?_
        rintro e w' ⟨rfl, rfl⟩
        go_wp2_with fail
        refine hgd.out.mono ?_
        rintro e w' ⟨rfl, rfl⟩
        go_wp2_with (at_builtin; refine wpList_append_any rfl (.tmp 41) (.tmp 43) 121 rfl w.heap.size 21 i0 (.int .i32 0) 1 4 Try.underlying121 hi hz0 hz1 hz2 rfl (by decide) _ P.length _ rfl (hO.out.alloc _) _ 1 1 _ rfl (some_none _) rfl (one_new _ _ _ _) (one_int _ _) (by unfold maxLen; omega) (by omega) (by have := hB.out.size; simp; omega) ?_; intro a3 c3 w3 hown3 hb3 hnil3)
        rw [HRr.out, ← runesV_snoc] at hown3
        have O3 := Lib.hid hown3
        have B3 := Lib.hid ((hB.out.alloc hB.out.size _).trans hb3)
        clear hown3 hb3 hnil3 hO hB
        go_roundw
        case rel => exact ⟨pos + _, g, P ++ [r], hg, by go_num, by omega, Lib.hid (by rw [hP.out, HST.out]; simp), Lib.hid (by intro x hx; rcases List.mem_append.1 hx with hx | hx; exact hG.out x hx; simp at hx; rw [hx]; exact NE.out), by rw [List.length_append]; exact O3, B3⟩
        case measure => simp [intOf]; omega
      · have c6 := c3' hN
        clear c3' c5'
        subst hN
        go_wp2_with fail
        refine hone.out.mono ?_
        rintro e w' ⟨rfl, rfl⟩
        go_wp2_with fail
        refine hgd.out.mono ?_
        rintro e w' ⟨rfl, rfl⟩
        go_wp2_with (at_builtin; refine wpList_append_any rfl (.tmp 41) (.tmp 43) 121 rfl w.heap.size 21 i0 (.int .i32 0) 1 4 Try.underlying121 hi hz0 hz1 hz2 rfl (by decide) _ P.length _ rfl (hO.out.alloc _) _ 1 1 _ rfl (some_none _) rfl (one_new _ _ _ _) (one_int _ _) (by unfold maxLen; omega) (by omega) (by have := hB.out.size; simp; omega) ?_; intro a3 c3 w3 hown3 hb3 hnil3)
        rw [HRr.out, ← runesV_snoc] at hown3
        have O3 := Lib.hid hown3
        have B3 := Lib.hid ((hB.out.alloc hB.out.size _).trans hb3)
        clear hown3 hb3 hnil3 hO hB
        go_roundw
        case rel => exact ⟨pos + _, g, P ++ [r], hg, by go_num, by omega, Lib.hid (by rw [hP.out, HST.out]; simp), Lib.hid (by intro x hx; rcases List.mem_append.1 hx with hx | hx; exact hG.out x hx; simp at hx; rw [hx]; exact NE.out), by rw [List.length_append]; exact O3, B3⟩
        case measure => simp [intOf]; omega
      · have c6 := c5' hN
        clear c3' c5'
        subst hN
        go_wp2_with fail
        refine hone.out.mono ?_
        rintro e w' ⟨rfl, rfl⟩
        go_wp2_with fail
        refine hgd.out.mono ?_
        rintro e w' ⟨rfl, rfl⟩
        go_wp2_with (at_builtin; refine wpList_append_any rfl (.tmp 41) (.tmp 43) 121 rfl w.heap.size 21 i0 (.int .i32 0) 1 4 Try.underlying121 hi hz0 hz1 hz2 rfl (by decide) _ P.length _ rfl (hO.out.alloc _) _ 1 1 _ rfl (some_none _) rfl (one_new _ _ _ _) (one_int _ _) (by unfold maxLen; omega) (by omega) (by have := hB.out.size; simp; omega) ?_; intro a3 c3 w3 hown3 hb3 hnil3)
        rw [HRr.out, ← runesV_snoc] at hown3
        have O3 := Lib.hid hown3
        have B3 := Lib.hid ((hB.out.alloc hB.out.size _).trans hb3)
        clear hown3 hb3 hnil3 hO hB
        go_roundw
        case rel => exact ⟨pos + _, g, P ++ [r], hg, by go_num, by omega, Lib.hid (by rw [hP.out, HST.out]; simp), Lib.hid (by intro x hx; rcases List.mem_append.1 hx with hx | hx; exact hG.out x hx; simp at hx; rw [hx]; exact NE.out), by rw [List.length_append]; exact O3, B3⟩
        case measure => simp [intOf]; omega
    · have he : runesS s = P := by rw [hP.out, runesN_end s f pos hlt, List.append_nil]
      have HE := Lib.hid he
      clear he
      obtain ⟨a4, c4, rfl⟩ : ∃ a4 c4, u4 = .slice a4 P.length c4 := by
        rcases hO.out.2 with ⟨h, h0⟩ | ⟨g', c', cur, h, _⟩
        · exact ⟨none, 0, by rw [h, h0]⟩
        · exact ⟨_, c', h⟩
      have hgood := lenS_good (s := s) (by rw [HE.out]; exact hG.out)
      have HG2 := Lib.hid hgood
      clear hgood
      go_wp2_with fail
      go_ret2
      exact Or.inl ⟨by rw [HG2.out]; omega, a4, c4, by rw [HE.out]; rfl, by rw [HE.out]; exact hO.out, hB.out⟩
theorem holdsI_own {w : World} {B : Nat} {a : Option Addr} {c : Nat} {P : List Nat} (h : w.ownsRow B 21 1 (.slice a P.length c) P.length (runesV (intsN P))) : HoldsI .i32 w a P.length (intsN P) := by
  have hv := owns_holds h
  refine ⟨intsN_len P, fun h0 => ?_⟩
  obtain ⟨b, o, ha, hc⟩ := hv.2 h0
  exact ⟨b, o, ha, fun i hi => by rw [hc i hi, runesV, getD_map_int .i32 _ i (by rw [intsN_len]; exact hi)]⟩
theorem r1runes_any (s : ByteArray) (w : World) (hs : s.size ≤ 1048576) :
    Calls Try.prog 78 #[.string s] w (RunesP s w) := by
  refine (r1runesq_any s w hs).mono ?_
  rintro e w' (⟨h1, a, c, rfl, h2, h3⟩ | h)
  · exact Or.inl ⟨h1, a, c, rfl, holdsI_own h2, (owns_none h2).1, h3⟩
  · exact Or.inr h
end Go.Proofs.Ytlcmndbnknifhaa
/- the document's Text, Prefix of one rune; its same -/
namespace Go.Proofs.Ytlcmndbnknifhaa
open Go.RowKit
set_option linter.unusedVariables false
set_option maxRecDepth 20000
theorem encS_nums (r : Int) (l : List Int) (h : Lib.encodeRuneZ r = l) : strOfNums l = encS r := by
  subst h; rfl
theorem conv_lit (w : World) (xs : List Int) (n : Nat) (hn : xs.length = n) (h0 : 0 < n) : (convert 25 9 (.slice (some ⟨w.heap.size, 0, none⟩) n n)).run Try.prog (w.alloc (.cells (xs.map (Value.int .u8)).toArray 5)) = .ok (.string (strOfNums xs)) (w.alloc (.cells (xs.map (Value.int .u8)).toArray 5)) := by
  refine run_convert_bytes_arg (P := Try.prog) _ 25 5 Try.underlying25 Try.underlying5 w.heap.size 0 n n xs hn (fun i hi => ?_) 9 Try.underlying9
  show (w.alloc (.cells (xs.map (Value.int .u8)).toArray 5)).cell? _ = _
  rw [Nat.zero_add, World.cell?_alloc_mark]
  simp [List.getD_eq_getElem?_getD, hn, hi]
set_option maxHeartbeats 1600000 in
theorem bytes_any (r : Int) (w : World) (h : goodP r) :
    Calls Try.prog 108 #[.int .i32 r] w fun e w' => e = .returned (.string (encS r)) ∧ Below w.heap.size w w' := by
  have hc : r < 128 ∨ (128 ≤ r ∧ r < 2048) ∨ (2048 ≤ r ∧ r < 65536) ∨ 65536 ≤ r := by omega
  obtain ⟨g0, g1, g2, g3⟩ := h
  rcases hc with h | ⟨h, h2⟩ | ⟨h, h2⟩ | h
  · have hconv := conv_lit w [r] 1 rfl (by omega)
    have E := Lib.hid (encS_nums r _ (Lib.encodeRuneZ_one g0 (by omega)))
    dsimp only [List.map] at hconv
    go_enter Try.func108, Try.ntmps108
    go_wp2_with fail
    go_ret
    exact ⟨(show Ending.returned (Value.string _) = .returned (Value.string _) by rw [E.out]), below_one _ _⟩
  · have hconv := conv_lit w [192 + r / 64, 128 + r % 64] 2 rfl (by omega)
    have E := Lib.hid (encS_nums r _ (Lib.encodeRuneZ_two (by omega) (by omega)))
    dsimp only [List.map] at hconv
    go_enter Try.func108, Try.ntmps108
    go_wp2_with fail
    go_ret
    exact ⟨(show Ending.returned (Value.string _) = .returned (Value.string _) by rw [E.out]), below_one _ _⟩
  · have hconv := conv_lit w [224 + r / 4096, 128 + r / 64 % 64, 128 + r % 64] 3 rfl (by omega)
    have E := Lib.hid (encS_nums r _ (Lib.encodeRuneZ_three (by omega)))
    dsimp only [List.map] at hconv
    go_enter Try.func108, Try.ntmps108
    go_wp2_with fail
    go_ret
    exact ⟨(show Ending.returned (Value.string _) = .returned (Value.string _) by rw [E.out]), below_one _ _⟩
  · have hconv := conv_lit w [240 + r / 262144, 128 + r / 4096 % 64, 128 + r / 64 % 64, 128 + r % 64] 4 rfl (by omega)
    have E := Lib.hid (encS_nums r _ (Lib.encodeRuneZ_four (by omega) (by omega)))
    dsimp only [List.map] at hconv
    go_enter Try.func108, Try.ntmps108
    go_wp2_with fail
    go_ret
    exact ⟨(show Ending.returned (Value.string _) = .returned (Value.string _) by rw [E.out]), below_one _ _⟩
set_option maxHeartbeats 1600000 in
theorem rtext_any (a : Option Addr) (n cap : Nat) (zs : List Int) (w : World) (hh : HoldsI .i32 w a n zs) (hn : n ≤ 1048576) :
    Calls Try.prog 97 #[.slice a n cap] w fun e w' => e = .returned (.tuple #[.string (textZ zs), .bool (decide (allG zs))]) ∧ Below w.heap.size w w' := by
  have hl := hh.len
  go_enter Try.func97, Try.ntmps97
  go_wp2_with fail
  go_loopw [4, 5] (fun sv cv wr => ∃ j : Nat, j ≤ n ∧ cv = .int .i64 j ∧ sv = .string (encB (zs.take j)) ∧ Hid (allG (zs.take j)) ∧ Hid (Below w.heap.size w wr)) (fun _ cv _ => n - (intOf cv).toNat)
  case atStart =>
    refine ⟨0, by omega, rfl, rfl, Lib.hid (by simp [allG]), Lib.hid (Below.refl _ _)⟩
  case round =>
    obtain ⟨j, hj, rfl, rfl, hG, hB⟩ := hrel
    have hs := hB.out.size
    by_cases hlt : j < n
    · obtain ⟨b, o, rfl, hc⟩ := (hh.below hB.out).at (by omega)
      have H2 := Lib.hid (fun w2 (hb : Below wr.heap.size wr w2) => ((hh.below hB.out).below hb))
      have e1 := hc j hlt
      have hmem := getD_mem' zs j (by omega)
      have htk := take_succ_getD zs 0 j (by omega)
      obtain ⟨x, hx⟩ : ∃ x, zs.getD j 0 = x := ⟨_, rfl⟩
      rw [hx] at e1 hmem htk
      have HM := Lib.hid hmem; have HT := Lib.hid htk
      clear hx hmem htk hc
      have hgd := fun w => good_any x w
      by_cases hg : goodP x
      · rw [decide_eq_true hg] at hgd
        have HG := Lib.hid hg; have HD := Lib.hid hgd
        clear hg hgd
        have hsz : (encB (zs.take j)).size ≤ 4194304 := by
          have h1 := encB_size (zs.take j)
          have h2 : (zs.take j).length ≤ j := List.length_take_le _ _
          omega
        obtain ⟨S, hS⟩ : ∃ S, encB (zs.take j) = S := ⟨_, rfl⟩
        rw [hS] at hsz ⊢
        have HS := Lib.hid hS
        clear hS
        go_wp2_with fail
        refine (HD.out _).mono ?_
        rintro e w' ⟨rfl, rfl⟩
        go_wp2_with fail
        refine (bytes_any x _ HG.out).mono ?_
        rintro e w2 ⟨rfl, hb2⟩
        have hes : S ++ encS x = encB (zs.take (j + 1)) := by rw [← HS.out, encB_snoc, HT.out]
        have hsz2 : (encS x).size ≤ 4 := by
          have h1 := encode_le x
          simpa [encS, ByteArray.size] using h1
        go_wp2_with fail
        go_roundw
        case rel => exact ⟨j + 1, by omega, by go_num, rfl, Lib.hid (by rw [HT.out]; intro z hz; rcases List.mem_append.1 hz with hz | hz; exact hG.out z hz; simp at hz; rw [hz]; exact HG.out), Lib.hid (hB.out.trans (hb2.mono hs))⟩
        case measure => simp [intOf]; omega
      · rw [decide_eq_false hg] at hgd
        have hb2 := textZ_bad x HM.out hg
        have HD := Lib.hid hgd; have HB := Lib.hid hb2
        clear hg hgd hb2
        go_wp2_with fail
        refine (HD.out _).mono ?_
        rintro e w' ⟨rfl, rfl⟩
        go_wp2_with fail
        go_ret2
        exact ⟨by rw [HB.out.1, HB.out.2]; rfl, hB.out⟩
    · have hjn : zs.take j = zs := List.take_of_length_le (by omega)
      have hg := textZ_good (show allG zs by have := hG.out; rw [hjn] at this; exact this)
      have HJ := Lib.hid hjn; have HG := Lib.hid hg
      clear hjn hg
      go_wp2_with fail
      go_ret2
      exact ⟨by rw [HG.out.1, HG.out.2, HJ.out]; rfl, hB.out⟩
set_option maxHeartbeats 400000 in
theorem same8_any (a1 a2 : Option Addr) (n1 c1 n2 c2 : Nat) (z1 z2 : List Tx) (w : World) (h1 : HoldsT w a1 n1 z1) (h2 : HoldsT w a2 n2 z2) (hl1 : n1 ≤ 4611686018427387904) (hl2 : n2 ≤ 4611686018427387904) :
    Calls Try.prog 77 #[.slice a1 n1 c1, .slice a2 n2 c2] w fun e w' => e = .returned (.bool (decide (z1 = z2))) ∧ ∃ m, w' = w.drewN m := by
  have g1 := h1.len
  have g2 := h2.len
  have g1' := fun h0 => h1.at h0
  have g2' := fun h0 => h2.at h0
  clear h1 h2
  by_cases hn : n1 = n2
  · subst hn
    rcases Nat.eq_zero_or_pos n1 with h0 | h0
    · subst h0
      clear g1' g2'
      obtain rfl := List.eq_nil_of_length_eq_zero g1
      obtain rfl := List.eq_nil_of_length_eq_zero g2
      go_enter Try.func77, Try.ntmps77
      go_wp2
      go_loop [5] (fun i => i = .int .i64 0) (fun _ => 0)
      case atStart => rfl
      case round =>
        obtain rfl := hrel
        go_wp2
        go_ret
        exact ⟨rfl, 0, rfl⟩
    · obtain ⟨b1, o1, rfl, k1⟩ := g1' h0
      obtain ⟨b2, o2, rfl, k2⟩ := g2' h0
      clear g1' g2'
      have G1 := Lib.hid g1; have G2 := Lib.hid g2; have K1 := Lib.hid k1; have K2 := Lib.hid k2
      clear g1 g2 k1 k2
      go_enter Try.func77, Try.ntmps77
      go_wp2
      go_loopw [5] (fun i wr => ∃ k m : Nat, k ≤ n1 ∧ i = .int .i64 k ∧ z1.take k = z2.take k ∧ wr = w.drewN m) (fun i _ => n1 - (intOf i).toNat)
      case atStart => exact ⟨0, 0, by omega, rfl, rfl, rfl⟩
      case round =>
        obtain ⟨k, m, hk, rfl, he, rfl⟩ := hrel
        have HE := Lib.hid he
        clear he
        by_cases hlt : k < n1
        · have e1 := K1.out k hlt
          have e2 := K2.out k hlt
          obtain ⟨x, hx⟩ : ∃ x, z1.getD k ByteArray.empty = x := ⟨_, rfl⟩
          obtain ⟨y, hy⟩ : ∃ y, z2.getD k ByteArray.empty = y := ⟨_, rfl⟩
          rw [hx] at e1; rw [hy] at e2
          have HX := Lib.hid hx; have HY := Lib.hid hy
          clear hx hy
          by_cases hxy : x = y
          · subst hxy
            have hb := str_same x
            go_wp2
            go_quiet (fail)
            go_wp2
            go_roundw
            case rel => exact ⟨k + 1, _, by omega, by go_num, by rw [take_succ_getD z1 ByteArray.empty k (by rw [G1.out]; exact hlt), take_succ_getD z2 ByteArray.empty k (by rw [G2.out]; exact hlt), HE.out, HX.out, HY.out], rfl⟩
            case measure => simp [intOf]; omega
          · have hb := str_other hxy
            have HXY := Lib.hid hxy
            clear hxy
            go_wp2
            go_quiet (fail)
            go_wp2
            go_ret
            exact ⟨ret_bool (by symm; rw [decide_eq_false_iff_not]; exact take_ne_of_getD ByteArray.empty k (by rw [HX.out, HY.out]; exact HXY.out)), _, World.drewN_drewN _ _ _⟩
        · have hkn : k = n1 := by omega
          have HK := Lib.hid hkn
          clear hkn
          go_wp2
          go_ret
          exact ⟨ret_bool (by symm; rw [decide_eq_true_iff]; exact take_eq_all (n := k) HE.out (by rw [G1.out, HK.out]) (by rw [G2.out, HK.out])), _, rfl⟩
  · have hb : ((n1 : Int) != (n2 : Int)) = true := by simp; omega
    clear g1' g2'
    have HN := Lib.hid hn; have G1 := Lib.hid g1; have G2 := Lib.hid g2
    clear hn g1 g2
    go_enter Try.func77, Try.ntmps77
    go_wp2
    go_ret
    exact ⟨ret_bool (by symm; rw [decide_eq_false_iff_not]; intro e; exact HN.out (by rw [← G1.out, ← G2.out, e])), 0, rfl⟩
/-- a text's first rune -/
def headS (s : Tx) : Tx := textZ [(labS s : Int)]
set_option maxHeartbeats 1600000 in
theorem rprefix_one (s : ByteArray) (w : World) (hs : s.size ≤ 1048576) (hg : 0 ≤ lenS s) (h0 : 0 < s.size) :
    Calls Try.prog 79 #[.string s, .int .i64 1] w fun e w' => e = .returned (.string (headS s)) ∧ Below w.heap.size w w' := by
  have hr := r1runesq_any s w hs
  have hle := runesS_le s
  have hrs := rst_runes hg h0
  obtain ⟨P, hP⟩ : ∃ P, runesS s = P := ⟨_, rfl⟩
  unfold RunesQ at hr
  rw [hP] at hr hrs hle
  obtain ⟨k, hk⟩ : ∃ k, P.length = k := ⟨_, rfl⟩
  rw [hk] at hr hle
  have hk1 : 1 ≤ k := by rw [← hk, hrs]; simp
  have hp0 : P.getD 0 0 = labS s := by rw [hrs]; rfl
  have HR := Lib.hid hr; have HP0 := Lib.hid hp0; have HK := Lib.hid hk
  have hsz : k ≤ 1048576 := by omega
  have HG := Lib.hid hg
  clear hr hp0 hk hrs hP hg
  go_enter Try.func79, Try.ntmps79
  go_wp2_with fail
  refine HR.out.mono ?_
  rintro e w1 (⟨h1, a, c, rfl, h2, h3⟩ | ⟨h1, rfl, h3⟩)
  · have H3 := Lib.hid h3
    have hcc := (owns_none h2).2
    have HI : HoldsI .i32 w1 a k (intsN P) := by rw [← HK.out]; exact holdsI_own (by rw [HK.out]; exact h2)
    obtain ⟨b, o, rfl, hc⟩ := HI.at (by omega)
    have ex : (intsN P).getD 0 0 = (labS s : Int) := by
      rw [← HP0.out]
      have := HK.out
      simp [intsN, List.getD_eq_getElem?_getD, List.getElem?_eq_getElem (show 0 < P.length by omega)]
    have HT := Lib.hid (fun w2 => fun (hb : Below w1.heap.size w1 w2) (cc : Nat) => (rtext_any (some ⟨b, o, none⟩) 1 cc [(labS s : Int)] w2 (HoldsI.below (w := w1) (by
      refine ⟨rfl, fun _ => ⟨b, o, rfl, fun i hi => ?_⟩⟩
      obtain rfl : i = 0 := by omega
      have := hc 0 (by omega)
      rw [ex] at this
      exact this) hb) (by omega)))
    have HIH := Lib.hid HI
    clear h1 h2 h3 hc HI
    by_cases hk2 : 1 < k
    · have d1 : decide ((1 : Int) < (k : Int)) = true := decide_eq_true (by omega)
      have j1 : (1 : Int) ≤ (k : Int) := by omega
      go_wp2_with fail
      refine (HT.out _ (Below.refl _ _) _).mono ?_
      rintro e w2 ⟨rfl, hb⟩
      have B2 := Lib.hid (H3.out.trans (hb.mono H3.out.size))
      clear hb
      go_wp2_with fail
      go_ret
      exact ⟨rfl, B2.out⟩
    · obtain rfl : k = 1 := by omega
      go_wp2_with fail
      refine (HT.out _ (Below.refl _ _) _).mono ?_
      rintro e w2 ⟨rfl, hb⟩
      have B2 := Lib.hid (H3.out.trans (hb.mono H3.out.size))
      clear hb
      go_wp2_with fail
      go_ret
      exact ⟨rfl, B2.out⟩
  · exact absurd HG.out (by omega)
end Go.Proofs.Ytlcmndbnknifhaa
/- the document's graph in memory -/
namespace Go.Proofs.Ytlcmndbnknifhaa
open Go.RowKit
set_option linter.unusedVariables false
set_option maxRecDepth 20000
/-- a node, and where its rests and edges lie -/
structure NR where
  rests : List Tx
  ra : Option Addr
  rc : Nat
  es : List EdP
  ea : Option Addr
  ec : Nat
def nr0 : NR := ⟨[], none, 0, [], none, 0⟩
def nrV : List NR → List Value
  | [] => []
  | x :: l => .slice x.ra x.rests.length x.rc :: .slice x.ea x.es.length x.ec :: nrV l
theorem nrV_len : ∀ l : List NR, (nrV l).length = l.length * 2
  | [] => rfl
  | x :: l => by simp [nrV, nrV_len l]; omega
theorem nrV_app : ∀ k l : List NR, nrV (k ++ l) = nrV k ++ nrV l
  | [], l => rfl
  | x :: k, l => by simp [nrV, nrV_app k l]
theorem nrV_at : ∀ (l : List NR) (i : Nat), i < l.length → (nrV l)[i * 2]? = some (.slice (l.getD i nr0).ra (l.getD i nr0).rests.length (l.getD i nr0).rc) ∧ (nrV l)[i * 2 + 1]? = some (.slice (l.getD i nr0).ea (l.getD i nr0).es.length (l.getD i nr0).ec)
  | [], i, h => by simp at h
  | x :: l, 0, _ => by simp [nrV]
  | x :: l, i + 1, h => by
    have ih := nrV_at l i (by simpa using h)
    have e1 : (i + 1) * 2 = i * 2 + 1 + 1 := by omega
    rw [e1]
    simpa [nrV] using ih
def withE (x : NR) (es : List EdP) (ea : Option Addr) (ec : Nat) : NR := ⟨x.rests, x.ra, x.rc, es, ea, ec⟩
theorem nrV_set : ∀ (L : List NR) (i : Nat) (es : List EdP) (ea : Option Addr) (ec : Nat), i < L.length → (nrV L).set (i * 2 + 1) (.slice ea es.length ec) = nrV (L.set i (withE (L.getD i nr0) es ea ec))
  | [], i, _, _, _, h => by simp at h
  | x :: l, 0, es, ea, ec, _ => by simp [nrV, withE]
  | x :: l, i + 1, es, ea, ec, h => by
    have ih := nrV_set l i es ea ec (by simpa using h)
    have e1 : (i + 1) * 2 + 1 = i * 2 + 1 + 1 + 1 := by omega
    rw [e1]
    simp only [nrV, List.set_cons_succ]
    rw [ih]
    simp
theorem mem_nr {L : List NR} {i : Nat} (h : i < L.length) : L.getD i nr0 ∈ L := by rw [List.getD_eq_getElem?_getD, List.getElem?_eq_getElem h]; simp
def EdF (w : World) (F : Nat → Prop) (x : NR) : Prop := HoldsEd w x.ea x.es.length x.es ∧ ((x.ea = none → x.es.length = 0 ∧ x.ec = 0) ∧ x.es.length ≤ x.ec) ∧ ∀ fb fo, x.ea = some ⟨fb, fo, none⟩ → F fb
def ReF (w : World) (F : Nat → Prop) (x : NR) : Prop := HoldsT w x.ra x.rests.length x.rests ∧ x.rests.length ≤ 1000000 ∧ (0 < x.rests.length → ∀ fb fo, x.ra = some ⟨fb, fo, none⟩ → F fb)
/-- block g is the document's graph of these nodes; F: what the nodes' slices lie in, S: what may turn -/
structure RMid (w : World) (g : Nat) (na : Option Addr) (nc : Nat) (NL : List NR) (S F : Nat → Prop) : Prop where
  c : w.cell? ⟨g, 0, none⟩ = some (.slice na NL.length nc)
  f : ∀ i, w.frozen? ⟨g, i, none⟩ = false
  o : w.ownsRow 0 97 2 (.slice na NL.length nc) NL.length (nrV NL)
  e : ∀ x ∈ NL, EdF w F x
  r : ∀ x ∈ NL, ReF w F x
  sg : S g
  sn : ∀ q, na = some ⟨q, 0, none⟩ → S q ∧ q ≠ g
  lt : ∀ k, S k → k < w.heap.size
  fl : ∀ k, F k → ¬ S k ∧ k < w.heap.size
theorem holdsEd_turn {w w' : World} {a : Option Addr} {n : Nat} {ks : List EdP} {T : Nat → Prop} (h : HoldsEd w a n ks) (t : Turn T w w') (hF : ∀ fb fo, a = some ⟨fb, fo, none⟩ → ¬ T fb ∧ fb < w.heap.size) : HoldsEd w' a n ks :=
  holdsEd_blocks h (fun fb fo e => t.block fb (hF fb fo e).2 (hF fb fo e).1)
theorem RMid.turn {w w' : World} {g : Nat} {na : Option Addr} {nc : Nat} {NL : List NR} {S F T : Nat → Prop} (h : RMid w g na nc NL S F) (t : Turn T w w') (hT : ∀ k, T k → ¬ S k ∧ ¬ F k) : RMid w' g na nc NL S F := by
  have lg := h.lt g h.sg
  have ng : ¬ T g := fun e => (hT g e).1 h.sg
  exact ⟨(t.cell lg ng).trans h.c, fun i => (t.frozen lg ng).trans (h.f i), gowns_block h.o (fun q hq => t.block q (h.lt q (h.sn q hq).1) (fun e => (hT q e).1 (h.sn q hq).1)),
    fun x hx => ⟨holdsEd_turn (h.e x hx).1 t (fun fb fo e => ⟨fun e2 => (hT fb e2).2 ((h.e x hx).2.2 fb fo e), (h.fl fb ((h.e x hx).2.2 fb fo e)).2⟩), (h.e x hx).2⟩,
    fun x hx => ⟨holdsT_turn (h.r x hx).1 t (fun h0 fb fo e e2 => (hT fb e2).2 ((h.r x hx).2.2 h0 fb fo e)), (h.r x hx).2⟩,
    h.sg, h.sn, fun k hk => Nat.lt_of_lt_of_le (h.lt k hk) t.size, fun k hk => ⟨(h.fl k hk).1, Nat.lt_of_lt_of_le (h.fl k hk).2 t.size⟩⟩
theorem RMid.at {w : World} {g : Nat} {na : Option Addr} {nc : Nat} {NL : List NR} {S F : Nat → Prop} (h : RMid w g na nc NL S F) {i : Nat} (hi : i < NL.length) : ∃ q, na = some ⟨q, 0, none⟩ ∧ w.cell? ⟨q, i * 2, none⟩ = some (.slice (NL.getD i nr0).ra (NL.getD i nr0).rests.length (NL.getD i nr0).rc) ∧ w.cell? ⟨q, i * 2 + 1, none⟩ = some (.slice (NL.getD i nr0).ea (NL.getD i nr0).es.length (NL.getD i nr0).ec) := by
  have o := h.o
  obtain ⟨q, cap', hv⟩ := Joins.ownsRow_form o (by omega)
  simp only [Value.slice.injEq] at hv
  obtain ⟨hv, -, -⟩ := hv
  subst hv
  obtain ⟨v0, v1⟩ := nrV_at NL i hi
  exact ⟨q, rfl, (o.cellAt (i * 2) (by omega)).trans v0, (o.cellAt (i * 2 + 1) (by omega)).trans v1⟩
/-- one node more -/
theorem RMid.grow {w w6 : World} {g q cap : Nat} {na : Option Addr} {nc : Nat} {NL : List NR} {S F : Nat → Prop} {o : Obj} {s : List Tx} {ra : Option Addr} {rc : Nat} (h : RMid w g na nc NL S F)
    (hs : HoldsT w ra s.length s) (hsl : s.length ≤ 1000000) (hsF : 0 < s.length → ∀ fb fo, ra = some ⟨fb, fo, none⟩ → F fb)
    (own : w6.ownsRow 0 97 2 (.slice (some ⟨q, 0, none⟩) (NL.length + 1) cap) (NL.length + 1) (nrV NL ++ [.slice ra s.length rc, .slice none 0 0]))
    (hg : (w.alloc o).grownBy w6 (Value.slice na NL.length nc).ownBlock) (hat : (Value.slice na NL.length nc).ownBlock = some q ∨ q = (w.alloc o).heap.size) (hlt : q < w6.heap.size) :
    RMid (w6.setCell ⟨g, 0, none⟩ (.slice (some ⟨q, 0, none⟩) (NL.length + 1) cap)) g (some ⟨q, 0, none⟩) cap (NL ++ [⟨s, ra, rc, [], none, 0⟩]) (fun k => S k ∨ k = q) F ∧ Turn S w (w6.setCell ⟨g, 0, none⟩ (.slice (some ⟨q, 0, none⟩) (NL.length + 1) cap)) ∧ (S q ∨ w.heap.size ≤ q) := by
  have hza : (w.alloc o).heap.size = w.heap.size + 1 := by simp
  have hz6 := hg.size
  have hlb := h.lt g h.sg
  have old : ∀ k, k < w.heap.size → (∀ r, na = some ⟨r, 0, none⟩ → k ≠ r) → w6.heap[k]? = w.heap[k]? := fun k hk hn =>
    (hg.block k (by omega) (fun e => hn k (gown_at h.o e) rfl)).trans (Below.heap_alloc _ _ _ (by omega))
  have ob := old g hlb (fun r e hq => (h.sn r e).2 hq.symm)
  have hwhere : na = some ⟨q, 0, none⟩ ∨ w.heap.size ≤ q := by
    rcases hat with e | e
    · exact Or.inl (gown_at h.o e.symm)
    · exact Or.inr (by omega)
  have gq : q ≠ g := by
    rcases hwhere with e | e
    · exact (h.sn q e).2
    · omega
  have sz : (w6.setCell ⟨g, 0, none⟩ (.slice (some ⟨q, 0, none⟩) (NL.length + 1) cap)).heap.size = w6.heap.size := by simp [World.setCell]
  have t : Turn (fun k => k = g ∨ na = some ⟨k, 0, none⟩) w (w6.setCell ⟨g, 0, none⟩ (.slice (some ⟨q, 0, none⟩) (NL.length + 1) cap)) := by
    refine Turn.trans ?_ (Turn.setCell (Or.inl rfl))
    exact ⟨hg.os, hg.tape, hg.output, by omega, fun k hk hn => old k hk (fun r e h2 => hn (Or.inr (by rw [h2]; exact e)))⟩
  have tS : ∀ k, (k = g ∨ na = some ⟨k, 0, none⟩) → S k := fun k hk => by
    rcases hk with rfl | e
    · exact h.sg
    · exact (h.sn k e).1
  have hlen : (NL ++ [(⟨s, ra, rc, [], none, 0⟩ : NR)]).length = NL.length + 1 := by simp
  have hkv : nrV (NL ++ [⟨s, ra, rc, [], none, 0⟩]) = nrV NL ++ [.slice ra s.length rc, .slice none 0 0] := by rw [nrV_app]; rfl
  refine ⟨⟨?_, fun i => ?_, ?_, fun x hx => ?_, fun x hx => ?_, Or.inl h.sg, fun r hr => ?_, fun k hk => ?_, fun k hk => ⟨fun e => ?_, ?_⟩⟩, t.mono tS, ?_⟩
  · rw [hlen]; exact cset_at ((World.cell?_of_block (w := w) ob).trans h.c)
  · rw [fset_any, World.frozen?_of_block (w := w) ob]; exact h.f i
  · rw [hlen, hkv]
    exact gowns_block own (fun r hr => by injection hr with hr; injection hr with hr; subst hr; exact gheap_far gq)
  · rcases List.mem_append.1 hx with hx | hx
    · obtain ⟨y1, y2, y3⟩ := h.e x hx
      exact ⟨holdsEd_turn y1 t (fun fb fo e => ⟨fun e2 => (h.fl fb (y3 fb fo e)).1 (tS fb e2), (h.fl fb (y3 fb fo e)).2⟩), y2, y3⟩
    · simp only [List.mem_singleton] at hx
      subst hx
      exact ⟨HoldsEd.nil _ _, ⟨fun _ => ⟨rfl, rfl⟩, Nat.le_refl _⟩, fun fb fo e => by cases e⟩
  · rcases List.mem_append.1 hx with hx | hx
    · obtain ⟨y1, y2⟩ := h.r x hx
      exact ⟨holdsT_turn y1 t (fun h0 fb fo e e2 => (h.fl fb (y2.2 h0 fb fo e)).1 (tS fb e2)), y2⟩
    · simp only [List.mem_singleton] at hx
      subst hx
      exact ⟨holdsT_turn hs t (fun h0 fb fo e e2 => (h.fl fb (hsF h0 fb fo e)).1 (tS fb e2)), hsl, hsF⟩
  · injection hr with hr; injection hr with hr; subst hr
    exact ⟨Or.inr rfl, gq⟩
  · rw [sz]
    rcases hk with hk | hk
    · have := h.lt k hk; omega
    · rw [hk]; exact hlt
  · rcases e with e | e
    · exact (h.fl k hk).1 e
    · rcases hwhere with e2 | e2
      · exact (h.fl k hk).1 (by rw [e]; exact (h.sn q e2).1)
      · have := (h.fl k hk).2; omega
  · rw [sz]; have := (h.fl k hk).2; omega
  · rcases hwhere with e | e
    · exact Or.inl (h.sn q e).1
    · exact Or.inr e
/-- a node's edges are laid in their place -/
theorem RMid.put {w : World} {g q nc : Nat} {NL : List NR} {S F : Nat → Prop} (h : RMid w g (some ⟨q, 0, none⟩) nc NL S F) (i : Nat) (hi : i < NL.length) (es : List EdP) (ea : Option Addr) (ec : Nat) (h1 : HoldsEd w ea es.length es) (h3 : (ea = none → es.length = 0 ∧ ec = 0) ∧ es.length ≤ ec) (h4 : ∀ fb fo, ea = some ⟨fb, fo, none⟩ → ¬ S fb ∧ fb < w.heap.size) :
    RMid (w.setCell ⟨q, i * 2 + 1, none⟩ (.slice ea es.length ec)) g (some ⟨q, 0, none⟩) nc (NL.set i (withE (NL.getD i nr0) es ea ec)) S (fun k => F k ∨ ∃ fo, ea = some ⟨k, fo, none⟩) ∧ Turn (fun k => k = q) w (w.setCell ⟨q, i * 2 + 1, none⟩ (.slice ea es.length ec)) := by
  obtain ⟨s1, s2⟩ := h.sn q rfl
  have t : Turn (fun k => k = q) w (w.setCell ⟨q, i * 2 + 1, none⟩ (.slice ea es.length ec)) := Turn.setCell rfl
  have sz : (w.setCell ⟨q, i * 2 + 1, none⟩ (.slice ea es.length ec)).heap.size = w.heap.size := by simp [World.setCell]
  have own := (h.o.stored (i * 2 + 1) (.slice ea es.length ec)).1
  rw [nrV_set NL i es ea ec hi] at own
  have lg := h.lt g h.sg
  have ng : ¬ g = q := fun e => s2 e.symm
  have hE : ∀ x ∈ NL, EdF (w.setCell ⟨q, i * 2 + 1, none⟩ (.slice ea es.length ec)) (fun k => F k ∨ ∃ fo, ea = some ⟨k, fo, none⟩) x := fun x hx => by
    obtain ⟨y1, y2, y3⟩ := h.e x hx
    exact ⟨holdsEd_turn y1 t (fun fb fo e => ⟨fun e2 => (h.fl fb (y3 fb fo e)).1 (by rw [e2]; exact s1), (h.fl fb (y3 fb fo e)).2⟩), y2, fun fb fo e => Or.inl (y3 fb fo e)⟩
  have hR : ∀ x ∈ NL, ReF (w.setCell ⟨q, i * 2 + 1, none⟩ (.slice ea es.length ec)) (fun k => F k ∨ ∃ fo, ea = some ⟨k, fo, none⟩) x := fun x hx => by
    obtain ⟨y1, y2⟩ := h.r x hx
    exact ⟨holdsT_turn y1 t (fun h0 fb fo e e2 => (h.fl fb (y2.2 h0 fb fo e)).1 (by rw [e2]; exact s1)), y2.1, fun h0 fb fo e => Or.inl (y2.2 h0 fb fo e)⟩
  refine ⟨⟨?_, fun k => (t.frozen lg ng).trans (h.f k), ?_, fun x hx => ?_, fun x hx => ?_, h.sg, h.sn, fun k hk => by rw [sz]; exact h.lt k hk, fun k hk => ?_⟩, t⟩
  · rw [List.length_set]; exact (t.cell lg ng).trans h.c
  · rw [List.length_set]; exact own
  · rcases List.mem_or_eq_of_mem_set hx with hx | rfl
    · exact hE x hx
    · exact ⟨holdsEd_turn h1 t (fun fb fo e => ⟨fun e2 => (h4 fb fo e).1 (by rw [e2]; exact s1), (h4 fb fo e).2⟩), h3, fun fb fo e => Or.inr ⟨fo, e⟩⟩
  · rcases List.mem_or_eq_of_mem_set hx with hx | rfl
    · exact hR x hx
    · exact hR (NL.getD i nr0) (mem_nr hi)
  · rw [sz]
    rcases hk with hk | ⟨fo, hk⟩
    · exact h.fl k hk
    · exact h4 k fo hk
theorem RMid.len {w : World} {g : Nat} {na : Option Addr} {nc : Nat} {NL : List NR} {S F : Nat → Prop} {st : List GN} (h : RMid w g na nc NL S F) (eq : NL.map (fun x => (x.rests, x.es)) = st.map (fun x => (x.rests, x.edges))) : NL.length = st.length ∧ ∀ k, k < st.length → (NL.getD k nr0).rests = (st.getD k gn0).rests ∧ (NL.getD k nr0).es = (st.getD k gn0).edges := by
  have hl : NL.length = st.length := by have := congrArg List.length eq; simpa using this
  refine ⟨hl, fun k hk => ?_⟩
  have h2 := congrArg (fun l => l[k]?) eq
  simp only [List.getElem?_map, List.getElem?_eq_getElem (show k < NL.length by omega), List.getElem?_eq_getElem hk, Option.map_some] at h2
  injection h2 with h2
  rw [List.getD_eq_getElem?_getD, List.getD_eq_getElem?_getD, List.getElem?_eq_getElem (show k < NL.length by omega), List.getElem?_eq_getElem hk]
  injection h2 with h3 h4
  exact ⟨h3, h4⟩
/-- more is known to stay -/
theorem RMid.wide {w : World} {g : Nat} {na : Option Addr} {nc : Nat} {NL : List NR} {S F G : Nat → Prop} (h : RMid w g na nc NL S F) (hF : ∀ k, F k → G k) (hG : ∀ k, G k → ¬ S k ∧ k < w.heap.size) : RMid w g na nc NL S G :=
  ⟨h.c, h.f, h.o, fun x hx => ⟨(h.e x hx).1, (h.e x hx).2.1, fun fb fo e => hF fb ((h.e x hx).2.2 fb fo e)⟩, fun x hx => ⟨(h.r x hx).1, (h.r x hx).2.1, fun h0 fb fo e => hF fb ((h.r x hx).2.2 h0 fb fo e)⟩, h.sg, h.sn, h.lt, hG⟩
def nrP (x : NR) : List Tx × List EdP := (x.rests, x.es)
def grP (x : GN) : List Tx × List EdP := (x.rests, x.edges)
def RQ (g : Nat) (st : List GN) (w : World) (S F : Nat → Prop) : Prop := ∃ na nc NL, RMid w g na nc NL S F ∧ NL.map nrP = st.map grP
theorem RQ.turn {g : Nat} {st : List GN} {w w' : World} {S F T : Nat → Prop} (h : RQ g st w S F) (t : Turn T w w') (hT : ∀ k, T k → ¬ S k ∧ ¬ F k) : RQ g st w' S F := by
  obtain ⟨na, nc, NL, m, e⟩ := h; exact ⟨na, nc, NL, m.turn t hT, e⟩
theorem RQ.below {g : Nat} {st : List GN} {w w' : World} {S F : Nat → Prop} (h : RQ g st w S F) (hb : Below w.heap.size w w') : RQ g st w' S F :=
  h.turn (T := fun _ => False) (Turn.of_below hb) (fun k hk => hk.elim)
theorem RQ.lt {g : Nat} {st : List GN} {w : World} {S F : Nat → Prop} (h : RQ g st w S F) : ∀ k, S k → k < w.heap.size := by obtain ⟨na, nc, NL, m, e⟩ := h; exact m.lt
theorem RQ.fl {g : Nat} {st : List GN} {w : World} {S F : Nat → Prop} (h : RQ g st w S F) : ∀ k, F k → ¬ S k ∧ k < w.heap.size := by obtain ⟨na, nc, NL, m, e⟩ := h; exact m.fl
theorem RQ.wide {g : Nat} {st : List GN} {w : World} {S F G : Nat → Prop} (h : RQ g st w S F) (hF : ∀ k, F k → G k) (hG : ∀ k, G k → ¬ S k ∧ k < w.heap.size) : RQ g st w S G := by
  obtain ⟨na, nc, NL, m, e⟩ := h; exact ⟨na, nc, NL, m.wide hF hG, e⟩
/-- what adding a list does -/
def PR (g : Nat) (st : List GN) (w : World) (S F : Nat → Prop) (w' : World) : Prop := ∃ S' F', RQ g st w' S' F' ∧ (∀ k, S' k → S k ∨ w.heap.size ≤ k) ∧ (∀ k, F' k → F k ∨ w.heap.size ≤ k) ∧ (∀ k, F k → F' k) ∧ Turn S w w'
/-- what the loop goes by -/
structure RK (g : Nat) (W : World) (S F : Nat → Prop) (st1 : List GN) (ea : Option Addr) (ec : Nat) (es : List EdP) (S1 F1 : Nat → Prop) (w : World) : Prop where
  q : RQ g st1 w S1 F1
  sub : ∀ k, S1 k → S k ∨ W.heap.size ≤ k
  fsub : ∀ k, F1 k → F k ∨ W.heap.size ≤ k
  fup : ∀ k, F k → F1 k
  t : Turn S W w
  o : w.ownsRow W.heap.size 67 2 (.slice ea es.length ec) es.length (edsV es)
  ne : ∀ k, ea = some ⟨k, 0, none⟩ → ¬ S1 k ∧ ¬ F1 k
theorem RK.more {g : Nat} {W : World} {S F : Nat → Prop} {st1 : List GN} {ea : Option Addr} {ec : Nat} {es : List EdP} {S1 F1 : Nat → Prop} {w w' : World} (h : RK g W S F st1 ea ec es S1 F1 w) (hb : Below w.heap.size w w') : RK g W S F st1 ea ec es S1 F1 w' :=
  ⟨h.q.below hb, h.sub, h.fsub, h.fup, h.t.trans (Turn.of_below hb), owns_below h.o hb, h.ne⟩
/-- a block of rests more -/
theorem RK.rows {g : Nat} {W : World} {S F : Nat → Prop} {st1 : List GN} {ea : Option Addr} {ec : Nat} {es : List EdP} {S1 F1 : Nat → Prop} {w : World} (h : RK g W S F st1 ea ec es S1 F1 w) (L : Nat → Prop) (hL : ∀ k, L k → ¬ S1 k ∧ k < w.heap.size ∧ W.heap.size ≤ k ∧ ea ≠ some ⟨k, 0, none⟩) : RK g W S F st1 ea ec es S1 (fun k => F1 k ∨ L k) w :=
  ⟨h.q.wide (fun k hk => Or.inl hk) (fun k hk => hk.elim (h.q.fl k) (fun x => ⟨(hL k x).1, (hL k x).2.1⟩)), h.sub, fun k hk => hk.elim (h.fsub k) (fun x => Or.inr (hL k x).2.2.1), fun k hk => Or.inl (h.fup k hk), h.t, h.o, fun k e => ⟨(h.ne k e).1, fun hk => hk.elim (h.ne k e).2 (fun x => (hL k x).2.2.2 e)⟩⟩
/-- behind a call that adds nodes -/
theorem RK.step {g : Nat} {W : World} {S F : Nat → Prop} {st1 st2 : List GN} {ea : Option Addr} {ec : Nat} {es : List EdP} {S1 F1 : Nat → Prop} {w w' : World} (h : RK g W S F st1 ea ec es S1 F1 w) (k : PR g st2 w S1 F1 w') : ∃ S2 F2, RK g W S F st2 ea ec es S2 F2 w' := by
  obtain ⟨S2, F2, q2, s2, f2, u2, t2⟩ := k
  have hz := h.t.size
  refine ⟨S2, F2, q2, fun k hk => ?_, fun k hk => ?_, fun k hk => u2 k (h.fup k hk), h.t.trans' t2 (fun i hi => h.sub i hi), gowns_block h.o (fun r hr => t2.block r (h.o.lt r (by rw [hr]; rfl)).2 (h.ne r hr).1), fun k hk => ⟨fun hk2 => ?_, fun hk2 => ?_⟩⟩
  · rcases s2 k hk with x | x
    · exact h.sub k x
    · exact Or.inr (by omega)
  · rcases f2 k hk with x | x
    · exact h.fsub k x
    · exact Or.inr (by omega)
  · rcases s2 k hk2 with x | x
    · exact (h.ne k hk).1 x
    · have := (h.o.lt k (by rw [hk]; rfl)).2; omega
  · rcases f2 k hk2 with x | x
    · exact (h.ne k hk).2 x
    · have := (h.o.lt k (by rw [hk]; rfl)).2; omega
/-- behind an edge more -/
theorem RK.edge {g : Nat} {W : World} {S F : Nat → Prop} {q cap : Nat} {st1 : List GN} {ea : Option Addr} {ec : Nat} {es : List EdP} {S1 F1 : Nat → Prop} {w w6 : World} {o : Obj} {x : EdP} (h : RK g W S F st1 ea ec es S1 F1 w)
    (own : w6.ownsRow W.heap.size 67 2 (.slice (some ⟨q, 0, none⟩) (es.length + 1) cap) (es.length + 1) (edsV es ++ cellsEd x))
    (hg : (w.alloc o).grownBy w6 (Value.slice ea es.length ec).ownBlock) (hat : (Value.slice ea es.length ec).ownBlock = some q ∨ q = (w.alloc o).heap.size) :
    RK g W S F st1 (some ⟨q, 0, none⟩) cap (es ++ [x]) S1 F1 w6 ∧ Turn (fun k => ea = some ⟨k, 0, none⟩) w w6 := by
  have hza : (w.alloc o).heap.size = w.heap.size + 1 := by simp
  have hz6 := hg.size
  have old : ∀ k, k < w.heap.size → ea ≠ some ⟨k, 0, none⟩ → w6.heap[k]? = w.heap[k]? := fun k hk hn =>
    (hg.block k (by omega) (fun e => hn (gown_at h.o e))).trans (Below.heap_alloc _ _ _ (by omega))
  have t1 : Turn (fun k => ea = some ⟨k, 0, none⟩) w w6 := ⟨hg.os, hg.tape, hg.output, by omega, fun k hk hn => old k hk hn⟩
  refine ⟨⟨h.q.turn t1 (fun k hk => h.ne k hk), h.sub, h.fsub, h.fup, h.t.trans' t1 (fun k hk => Or.inr (h.o.lt k (by rw [hk]; rfl)).1), ?_, fun k hk => ?_⟩, t1⟩
  · rw [List.length_append, List.length_singleton, edsV_snoc]; exact own
  · injection hk with hk; injection hk with hk; subst hk
    rcases hat with e | e
    · exact h.ne q (gown_at h.o e.symm)
    · exact ⟨fun hk => by have := h.q.lt q hk; omega, fun hk => by have := (h.q.fl q hk).2; omega⟩
/-- the place where the edges are to lie -/
theorem RK.target {g : Nat} {W : World} {S F : Nat → Prop} {st1 : List GN} {ea : Option Addr} {ec : Nat} {es : List EdP} {S1 F1 : Nat → Prop} {w : World} (h : RK g W S F st1 ea ec es S1 F1 w) (i : Nat) (hi : i < st1.length) (s : List Tx) (hr : (st1.getD i gn0).rests = s) (b : Bool) :
    ∃ nc q, w.cell? ⟨g, 0, none⟩ = some (.slice (some ⟨q, 0, none⟩) st1.length nc) ∧ (∃ v, w.cell? ⟨q, i * 2 + 1, none⟩ = some v) ∧ (∀ k, w.frozen? ⟨q, k, none⟩ = false) ∧
      PR g (st1.set i ⟨s, b, es⟩) W S F (w.setCell ⟨q, i * 2 + 1, none⟩ (.slice ea es.length ec)) := by
  obtain ⟨na, nc, NL, B, eq⟩ := h.q
  have hnl : NL.length = st1.length := by have := congrArg List.length eq; simpa using this
  obtain ⟨q, rfl, h0, h1⟩ := B.at (i := i) (by omega)
  have sq := B.sn q rfl
  have hea : ∀ fb fo, ea = some ⟨fb, fo, none⟩ → ¬ S1 fb ∧ fb < w.heap.size ∧ W.heap.size ≤ fb := fun fb fo e => by
    have hb := own_blockG h.o e
    rcases Joins.ownsRow_forms h.o with ⟨e1, _⟩ | ⟨g2, cap, e1⟩
    · injection e1 with e2; rw [e] at e2; cases e2
    · injection e1 with e2; rw [e] at e2; injection e2 with e2; injection e2 with e2 e3; subst e2; subst e3
      exact ⟨(h.ne _ e).1, hb.2, hb.1⟩
  obtain ⟨P1, P2⟩ := B.put i (by omega) es ea ec (HoldsEd.own h.o) (owns_none h.o) (fun fb fo e => ⟨(hea fb fo e).1, (hea fb fo e).2.1⟩)
  have hx : nrP (NL.getD i nr0) = grP (st1.getD i gn0) := by
    have h2 := congrArg (fun l => l[i]?) eq
    simp only [List.getElem?_map, List.getElem?_eq_getElem (show i < NL.length by omega), List.getElem?_eq_getElem hi, Option.map_some] at h2
    injection h2 with h2
    rw [List.getD_eq_getElem?_getD, List.getD_eq_getElem?_getD, List.getElem?_eq_getElem (show i < NL.length by omega), List.getElem?_eq_getElem hi]
    exact h2
  refine ⟨nc, q, by rw [← hnl]; exact B.c, ⟨_, h1⟩, fun k => B.o.frozenAt k, _, _, ⟨_, nc, _, P1, ?_⟩, h.sub, fun k hk => ?_, fun k hk => Or.inl (h.fup k hk), h.t.trans' P2 (fun k hk => by rw [hk]; exact h.sub q sq.1)⟩
  · rw [List.map_set, List.map_set, eq]
    congr 1
    unfold nrP grP at hx
    injection hx with hx1 hx2
    show ((NL.getD i nr0).rests, es) = (s, es)
    rw [hx1, hr]
  · rcases hk with hk | ⟨fo, hk⟩
    · exact h.fsub k hk
    · exact Or.inr (hea k fo hk).2.2
end Go.Proofs.Ytlcmndbnknifhaa
/- graph: from a text on, in pieces: plain -/
namespace Go.Proofs.Ytlcmndbnknifhaa
open Go.RowKit
set_option linter.unusedVariables false
set_option maxRecDepth 20000
def onS (ts : List Tx) (lo : Tx) : List Tx := ts.filter (fun t => !decide (cmpS t lo < 0))
theorem fromL_on (ts : List Tx) (lo : Tx) (most : Int) : fromL ts lo most = (onS ts lo).take most.toNat := rfl
theorem onS_len (ts : List Tx) (lo : Tx) : (onS ts lo).length ≤ ts.length := List.length_filter_le _ _
theorem onS_sorted {ts : List Tx} (h : SortedS ts) (lo : Tx) : SortedS (onS ts lo) := List.Pairwise.sublist List.filter_sublist h
theorem on_last {ts : List Tx} (h : SortedS ts) (lo : Tx) (i : Nat) (hi : i < (onS ts lo).length) : onS ts ((onS ts lo).getD i ByteArray.empty) = (onS ts lo).drop i := by
  obtain ⟨F, hF⟩ : ∃ F, onS ts lo = F := ⟨_, rfl⟩
  have hs := onS_sorted h lo
  rw [hF] at hi hs ⊢
  have hm : F.getD i ByteArray.empty ∈ F := getD_tx hi
  have hge : ¬ cmpS (F.getD i ByteArray.empty) lo < 0 := by
    rw [← hF] at hm ⊢
    have := (List.mem_filter.1 hm).2
    simpa using this
  obtain ⟨y, hy⟩ : ∃ y, F.getD i ByteArray.empty = y := ⟨_, rfl⟩
  rw [hy] at hge ⊢
  have e1 : onS ts y = F.filter (fun t => !decide (cmpS t y < 0)) := by
    rw [← hF]
    unfold onS
    rw [List.filter_filter]
    refine List.filter_congr fun t ht => ?_
    by_cases h1 : cmpS t y < 0
    · simp [h1]
    · have h2 : ¬ cmpS t lo < 0 := fun h2 => by
        have h3 : cmpS lo y < 0 ∨ lo = y := by
          rcases cmpS_bd y lo with e | e | e
          · omega
          · exact Or.inr (cmpS_zero.1 e).symm
          · left; rw [cmpS_swap]; omega
        rcases h3 with h3 | h3
        · exact h1 (cmpS_trans h2 h3)
        · exact h1 (h3 ▸ h2)
      simp [h1, h2]
  rw [e1]
  conv => lhs; rw [← List.take_append_drop i F]
  rw [List.filter_append]
  have d0 : F.drop i = y :: F.drop (i + 1) := by
    rw [List.drop_eq_getElem_cons hi, ← hy, List.getD_eq_getElem?_getD, List.getElem?_eq_getElem hi]; rfl
  have hp : SortedS (F.take i ++ F.drop i) := by rw [List.take_append_drop]; exact hs
  obtain ⟨-, hp2, hp3⟩ := List.pairwise_append.1 hp
  have e2 : (F.take i).filter (fun t => !decide (cmpS t y < 0)) = [] := by
    refine List.filter_eq_nil_iff.2 fun t ht => ?_
    have := hp3 t ht y (by rw [d0]; simp)
    simp [this]
  have e3 : (F.drop i).filter (fun t => !decide (cmpS t y < 0)) = F.drop i := by
    refine List.filter_eq_self.2 fun t ht => ?_
    rw [d0] at ht hp2
    rcases List.mem_cons.1 ht with rfl | ht
    · simp [cmpS_irrefl]
    · have := cmpS_asymm ((List.pairwise_cons.1 hp2).1 t ht)
      simpa using this
  rw [e2, e3, List.nil_append]
end Go.Proofs.Ytlcmndbnknifhaa
/- the first rune's text, plain -/
namespace Go.Proofs.Ytlcmndbnknifhaa
open Go.RowKit
set_option linter.unusedVariables false
set_option maxRecDepth 20000
theorem head_rst {t : Tx} (h : 0 ≤ lenS t) (h0 : 0 < t.size) : headS t ++ rstS t = t := text_rst h h0
theorem head_size {t : Tx} (h : 0 ≤ lenS t) (h0 : 0 < t.size) : (headS t).size = (Utf8.decode t 0).2 ∧ (headS t).size ≤ t.size ∧ 0 < (headS t).size := by
  have h1 := congrArg ByteArray.size (head_rst h h0)
  rw [ByteArray.size_append] at h1
  have h2 := rst_size h h0
  have h3 := (good_first h h0).2.1
  have h4 := decode_width t 0 h0
  omega
theorem head_cut {t : Tx} (h : 0 ≤ lenS t) (h0 : 0 < t.size) : t.extract (headS t).size t.size = rstS t := by rw [(head_size h h0).1]; rfl
theorem head_byte {t : Tx} (h : 0 ≤ lenS t) (h0 : 0 < t.size) (i : Nat) (hi : i < (headS t).size) : byteS t i = byteS (headS t) i := by
  conv => lhs; rw [← head_rst h h0]
  exact byteS_left _ _ _ hi
theorem head_lab {s t : Tx} (hs : 0 ≤ lenS s) (ht : 0 ≤ lenS t) (s0 : 0 < s.size) (t0 : 0 < t.size) : headS s = headS t ↔ labS s = labS t := by
  constructor
  · intro e
    have e1 := (ue_read_well s 0 s0 (good_first hs s0).1).1
    have e2 := (ue_read_well t 0 t0 (good_first ht t0).1).1
    have w1 := (head_size hs s0).1
    have w2 := (head_size ht t0).1
    have b : ∀ i, i < (Utf8.decode s 0).2 → byteS s i = byteS t i := fun i hi => by
      rw [head_byte hs s0 i (by omega), head_byte ht t0 i (by rw [← e]; omega), e]
    have ww : (Utf8.decode s 0).2 = (Utf8.decode t 0).2 := by rw [← w1, ← w2, e]
    unfold labS
    generalize (Utf8.decode s 0).1 = r1 at *
    generalize (Utf8.decode t 0).1 = r2 at *
    generalize (Utf8.decode s 0).2 = v1 at *
    generalize (Utf8.decode t 0).2 = v2 at *
    subst ww
    have b0 := b 0; have b1 := b 1; have b2 := b 2; have b3 := b 3
    simp only [Nat.zero_add] at e1 e2
    unfold Enc at e1 e2
    rcases e1 with ⟨rfl, p0, p⟩ | ⟨rfl, p0, p1, p⟩ | ⟨rfl, p0, p1, p2, p⟩ | ⟨rfl, p0, p1, p2, p3, p⟩
    · have := b0 (by omega)
      omega
    · have := b0 (by omega); have := b1 (by omega)
      omega
    · have := b0 (by omega); have := b1 (by omega); have := b2 (by omega)
      omega
    · have := b0 (by omega); have := b1 (by omega); have := b2 (by omega); have := b3 (by omega)
      omega
  · intro e
    unfold headS; rw [e]
theorem bod_same {l : List Tx} (h : ∀ t ∈ l, 0 < t.size) : bodS l = l := by
  unfold bodS finS
  cases l with
  | nil => rfl
  | cons a l =>
    have h1 := h a (by simp)
    have h2 : a ≠ (⟨#[]⟩ : ByteArray) := fun e => by rw [e] at h1; exact absurd h1 (by decide)
    simp [h2]
theorem bod_skip (l : List Tx) : bodS ((⟨#[]⟩ : ByteArray) :: l) = l := by
  unfold bodS finS; simp
/-- the run of one first rune -/
def runL (l : List Tx) : List Tx := l.takeWhile (fun t => decide (labS t = labS (l.getD 0 ByteArray.empty)))
theorem run_fol {l : List Tx} (h0 : l ≠ []) : (folS l).1 = labS (l.getD 0 ByteArray.empty) ∧ (folS l).2 = (runL l).map rstS ∧ (runL l).length = (folS l).2.length ∧ runL l = l.take (runL l).length := by
  cases l with
  | nil => exact absurd rfl h0
  | cons a l =>
    refine ⟨rfl, rfl, ?_, ?_⟩
    · show (runL (a :: l)).length = ((runL (a :: l)).map rstS).length
      rw [List.length_map]
    · exact (List.prefix_iff_eq_take.1 (List.takeWhile_prefix _))
theorem run_in {l : List Tx} {j : Nat} (hj : j < (runL l).length) : labS (l.getD j ByteArray.empty) = labS (l.getD 0 ByteArray.empty) ∧ j < l.length := by
  have hp : runL l <+: l := List.takeWhile_prefix _
  have hl := hp.length_le
  have h1 : (runL l)[j] ∈ runL l := List.getElem_mem hj
  have h2 := mem_tw (p := fun t => decide (labS t = labS (l.getD 0 ByteArray.empty))) h1
  have h3 : (runL l)[j] = l[j] := hp.getElem hj
  refine ⟨?_, by omega⟩
  rw [List.getD_eq_getElem?_getD, List.getElem?_eq_getElem (show j < l.length by omega)]
  rw [h3] at h2
  exact of_decide_eq_true h2
theorem run_end {l : List Tx} (hj : (runL l).length < l.length) : labS (l.getD (runL l).length ByteArray.empty) ≠ labS (l.getD 0 ByteArray.empty) := by
  have h1 := drop_tw (fun t => decide (labS t = labS (l.getD 0 ByteArray.empty))) l
  have h2 : l.drop (runL l).length = l.getD (runL l).length ByteArray.empty :: l.drop ((runL l).length + 1) := by
    rw [List.drop_eq_getElem_cons hj, List.getD_eq_getElem?_getD, List.getElem?_eq_getElem hj]; rfl
  unfold runL at h2
  rw [h1] at h2
  have h3 := dw_first _ _ _ _ h2
  exact of_decide_eq_false h3
end Go.Proofs.Ytlcmndbnknifhaa
/- graph: a list that grows beside rows that stay -/
namespace Go.Proofs.Ytlcmndbnknifhaa
open Go.RowKit
set_option linter.unusedVariables false
set_option maxRecDepth 20000
/-- a list of texts of the call's own; the blocks K are none of its -/
structure FS (B : Nat) (w0 : World) (K : Nat → Prop) (oa : Option Addr) (oc : Nat) (out : List Tx) (w : World) : Prop where
  o : w.ownsRow B 9 1 (.slice oa out.length oc) out.length (strsV out)
  no : ∀ q, oa = some ⟨q, 0, none⟩ → ¬ K q
  kl : ∀ k, K k → k < w.heap.size
  b : Below B w0 w
  bl : B ≤ w.heap.size
theorem FS.more {B : Nat} {w0 : World} {K : Nat → Prop} {oa : Option Addr} {oc : Nat} {out : List Tx} {w w' : World} (h : FS B w0 K oa oc out w) (hb : Below w.heap.size w w') : FS B w0 K oa oc out w' :=
  ⟨owns_below h.o hb, h.no, fun k hk => Nat.lt_of_lt_of_le (h.kl k hk) hb.size, h.b.trans (hb.mono h.bl), Nat.le_trans h.bl hb.size⟩
/-- rows made since stay too -/
theorem FS.keep {B : Nat} {w0 : World} {K L : Nat → Prop} {oa : Option Addr} {oc : Nat} {out : List Tx} {w : World} (h : FS B w0 K oa oc out w) (h1 : ∀ q, oa = some ⟨q, 0, none⟩ → ¬ L q) (h2 : ∀ k, L k → k < w.heap.size) : FS B w0 (fun k => K k ∨ L k) oa oc out w :=
  ⟨h.o, fun q e hk => hk.elim (h.no q e) (h1 q e), fun k hk => hk.elim (h.kl k) (h2 k), h.b, h.bl⟩
theorem FS.less {B : Nat} {w0 : World} {K L : Nat → Prop} {oa : Option Addr} {oc : Nat} {out : List Tx} {w : World} (h : FS B w0 K oa oc out w) (hl : ∀ k, L k → K k) : FS B w0 L oa oc out w :=
  ⟨h.o, fun q e hk => h.no q e (hl q hk), fun k hk => h.kl k (hl k hk), h.b, h.bl⟩
theorem FS.grow {B : Nat} {w0 : World} {K : Nat → Prop} {oa : Option Addr} {oc : Nat} {out : List Tx} {x : Tx} {w w6 : World} {q cap : Nat} {o : Obj} (h : FS B w0 K oa oc out w)
    (own : w6.ownsRow B 9 1 (.slice (some ⟨q, 0, none⟩) (out.length + 1) cap) (out.length + 1) (strsV out ++ [.string x]))
    (hg : (w.alloc o).grownBy w6 (Value.slice oa out.length oc).ownBlock) (hat : (Value.slice oa out.length oc).ownBlock = some q ∨ q = (w.alloc o).heap.size) :
    FS B w0 K (some ⟨q, 0, none⟩) cap (out ++ [x]) w6 ∧ Turn (fun k => oa = some ⟨k, 0, none⟩) w w6 := by
  have hza : (w.alloc o).heap.size = w.heap.size + 1 := by simp
  have hz6 := hg.size
  have old : ∀ k, k < w.heap.size → oa ≠ some ⟨k, 0, none⟩ → w6.heap[k]? = w.heap[k]? := fun k hk hn =>
    (hg.block k (by omega) (fun e => hn (gown_at h.o e))).trans (Below.heap_alloc _ _ _ (by omega))
  have t : Turn (fun k => oa = some ⟨k, 0, none⟩) w w6 := ⟨hg.os, hg.tape, hg.output, by omega, fun k hk hn => old k hk hn⟩
  have hlen : (out ++ [x]).length = out.length + 1 := by simp
  refine ⟨⟨by rw [hlen, strsV_snocG]; exact own, fun r hr hk => ?_, fun k hk => by have := h.kl k hk; omega, h.b.trans (t.below (fun k hk => (h.o.lt k (by rw [hk]; rfl)).1) h.bl), by have := h.bl; omega⟩, t⟩
  injection hr with hr; injection hr with hr; subst hr
  rcases hat with e | e
  · exact h.no q (gown_at h.o e.symm) hk
  · have := h.kl q hk; omega
theorem FS.start (w : World) : FS w.heap.size w (fun _ => False) none 0 [] w := ⟨World.ownsRow_nil _ _ _ _, fun q e => by (cases e), fun k hk => hk.elim, Below.refl _ _, Nat.le_refl _⟩
end Go.Proofs.Ytlcmndbnknifhaa
/- a list of texts that was answered -/
namespace Go.Proofs.Ytlcmndbnknifhaa
open Go.RowKit
set_option linter.unusedVariables false
set_option maxRecDepth 20000
theorem str_info : (Try.prog.info? 9).map (fun i => (i.zero, i.size, i.bytes)) = some (some (.string ⟨#[]⟩), 1, 16) := by kernel_rfl
theorem getD_memT' (zs : List Tx) (j : Nat) (h : j < zs.length) : zs.getD j ByteArray.empty ∈ zs := by
  rw [List.getD_eq_getElem?_getD, List.getElem?_eq_getElem h]; simp
/-- a list of texts that was answered, the call's own -/
def RetO (w : World) (ys : List Tx) (e : Ending) (w' : World) : Prop := ∃ a c, e = .returned (.slice a ys.length c) ∧ w'.ownsRow w.heap.size 9 1 (.slice a ys.length c) ys.length (strsV ys) ∧ Below w.heap.size w w'
theorem ret_own {w w' : World} {a : Option Addr} {c n : Nat} {ys zs : List Tx} (h : ys = zs) (hn : ys.length = n) (hh : w'.ownsRow w.heap.size 9 1 (.slice a n c) n (strsV ys)) (hb : Below w.heap.size w w') (v : Value) (hv : v = .slice a n c) : RetO w zs (.returned v) w' := by
  subst h hv hn; exact ⟨a, c, rfl, hh, hb⟩
end Go.Proofs.Ytlcmndbnknifhaa
/- the document's graph: a node more, its contract -/
namespace Go.Proofs.Ytlcmndbnknifhaa
open Go.RowKit Go.Maps
set_option linter.unusedVariables false
set_option maxRecDepth 20000
theorem nodeR_info : (Try.prog.info? 97).map (fun i => (i.zero, i.size, i.bytes)) = some (some (.agg #[.slice none 0 0, .slice none 0 0]), 2, 48) := by kernel_rfl
theorem find_at {st : List GN} {s : List Tx} {i : Nat} (hi : i < st.length) (h : (st.getD i gn0).rests = s) (hn : ∀ k, k < i → (st.getD k gn0).rests ≠ s) : findG st s = some i := by
  unfold findG
  refine List.findIdx?_eq_some_iff_getElem.2 ⟨hi, ?_, fun j hj => ?_⟩
  · rw [List.getD_eq_getElem?_getD, List.getElem?_eq_getElem hi] at h
    exact decide_eq_true h
  · have h1 := hn j hj
    rw [List.getD_eq_getElem?_getD, List.getElem?_eq_getElem (show j < st.length by omega)] at h1
    simpa using h1
theorem find_not {st : List GN} {s : List Tx} (hn : ∀ k, k < st.length → (st.getD k gn0).rests ≠ s) : findG st s = none := by
  unfold findG
  rw [List.findIdx?_eq_none_iff]
  intro x hx
  obtain ⟨k, hk, rfl⟩ := List.getElem_of_mem hx
  have h1 := hn k hk
  rw [List.getD_eq_getElem?_getD, List.getElem?_eq_getElem hk] at h1
  simpa using h1
theorem take_txP2 (l : List Tx) (i : Nat) (h : i < l.length) : l.take (i + 1) = l.take i ++ [l.getD i ByteArray.empty] := by
  rw [List.take_add_one, List.getElem?_eq_getElem h, List.getD_eq_getElem?_getD, List.getElem?_eq_getElem h]; rfl
def AddP (g : Nat) (w : World) (S F : Nat → Prop) (r : Nat × List GN) (e : Ending) (w' : World) : Prop := e = .returned (.int .i64 r.1) ∧ PR g r.2 w S F w'
def AddAny (g f : Nat) : Prop := ∀ (st : List GN) (s : List Tx) (a : Option Addr) (cap : Nat) (S F : Nat → Prop) (w : World), RQ g st w S F → OkL f s → HoldsT w a s.length s → (0 < s.length → ∀ fb fo, a = some ⟨fb, fo, none⟩ → F fb) → s.length ≤ cap → st.length + wtS s + 1 ≤ 1000000 →
    Calls Try.prog 51 #[.pointer (some ⟨g, 0, none⟩), .slice a s.length cap] w (AddP g w S F (reachF (f + 1) st s))
set_option maxHeartbeats 6400000 in
set_option maxRecDepth 100000 in
theorem add_step (g f : Nat) (IH : ∀ f', f = f' + 1 → AddAny g f') : AddAny g f := by
  intro st s a cap S F w hQ hO hH hA hc hb
  obtain ⟨i0, hi, hz0, hz1, hz2⟩ := info_parts nodeR_info
  obtain ⟨j0, hj, hy0, hy1, hy2⟩ := info_parts edgeG_info
  obtain ⟨k0, hk, hx0, hx1, hx2⟩ := info_parts str_info
  have IHH := Lib.hid IH; have OK := Lib.hid hO; have HH := Lib.hid hH; have AF := Lib.hid hA; have QW := Lib.hid hQ
  obtain ⟨n, hn⟩ : ∃ n, s.length = n := ⟨_, rfl⟩
  have HN := Lib.hid hn
  rw [hn] at hH hc
  have hn100 : n ≤ 100 := by have := hO.n; omega
  obtain ⟨L, hL⟩ : ∃ L, st.length = L := ⟨_, rfl⟩
  have HL := Lib.hid hL
  have hL2 : L ≤ 1000000 := by omega
  have HWB := Lib.hid hb
  clear hQ hO hA IH hb hL
  clear hH
  rw [hn]
  clear hn
  go_enter Try.func51, Try.ntmps51
  go_wp2_with fail
  go_loopw [5] (fun iv wr => ∃ (j : Nat), j ≤ L ∧ iv = .int .i64 j ∧ Hid (∀ k, k < j → (st.getD k gn0).rests ≠ s) ∧ Hid (Below w.heap.size w wr)) (fun iv _ => L - (intOf iv).toNat)
  case atStart => exact ⟨0, by omega, rfl, Lib.hid (fun k hk => by omega), Lib.hid (Below.refl _ _)⟩
  case round =>
    obtain ⟨j, hj', rfl, hNo, hB⟩ := hrel
    have QR := Lib.hid (QW.out.below hB.out)
    obtain ⟨na, nc, NL, B, eq⟩ := QR.out
    have hnl : NL.length = L := by have := congrArg List.length eq; have h2 := HL.out; simp at this; omega
    have gc := B.c
    rw [hnl] at gc
    by_cases hlt : j < L
    · obtain ⟨q, rfl, v0, -⟩ := B.at (i := j) (by omega)
      have hxr := B.r _ (mem_nr (L := NL) (i := j) (by omega))
      have hxe : (NL.getD j nr0).rests = (st.getD j gn0).rests := by
        have h2 := congrArg (fun l => l[j]?) eq
        have h3 := HL.out
        simp only [List.getElem?_map, List.getElem?_eq_getElem (show j < NL.length by omega), List.getElem?_eq_getElem (show j < st.length by omega), Option.map_some] at h2
        injection h2 with h2
        rw [List.getD_eq_getElem?_getD, List.getD_eq_getElem?_getD, List.getElem?_eq_getElem (show j < NL.length by omega), List.getElem?_eq_getElem (show j < st.length by omega)]
        exact congrArg Prod.fst h2
      obtain ⟨x, hx⟩ : ∃ x, NL.getD j nr0 = x := ⟨_, rfl⟩
      rw [hx] at v0 hxr hxe
      obtain ⟨m, hm⟩ : ∃ m, x.rests.length = m := ⟨_, rfl⟩
      have h1 := hxr.1
      have h2 := hxr.2.1
      rw [hm] at h1 v0 h2
      obtain ⟨b, hb⟩ : ∃ b, decide (x.rests = s) = b := ⟨_, rfl⟩
      have CS := Lib.hid (same8_any x.ra a m x.rc n cap x.rests s wr h1 (by have := HH.out.below hB.out; rw [HN.out] at this; exact this) (by omega) (by omega))
      rw [hb] at CS
      have HB := Lib.hid hb
      have HXE := Lib.hid hxe
      have i1 : (0 : Int) ≤ (j : Int) := by omega
      have i2 : (j : Int) < (L : Int) := by omega
      clear hb hxe hx hm h1 hxr h2 B eq hnl
      cases b with
      | true =>
        go_wp2_with fail
        refine CS.out.mono ?_
        rintro e w1 ⟨rfl, mm, rfl⟩
        have FD := Lib.hid (show reachF (f + 1) st s = (j, st) from reach_found (find_at (by rw [HL.out]; exact hlt) (HXE.out ▸ of_decide_eq_true HB.out) hNo.out))
        go_wp2_with fail
        go_ret
        rw [FD.out]
        exact ⟨rfl, S, F, QR.out.below (below_drewN _ _), fun k hk => Or.inl hk, fun k hk => Or.inl hk, fun k hk => hk, Turn.of_below (hB.out.trans ((below_drewN wr mm).mono hB.out.size))⟩
      | false =>
        go_wp2_with fail
        refine CS.out.mono ?_
        rintro e w1 ⟨rfl, mm, rfl⟩
        have B2 := Lib.hid (hB.out.trans ((below_drewN wr mm).mono hB.out.size))
        go_wp2_with fail
        go_roundw
        case rel => exact ⟨j + 1, by omega, by go_num, Lib.hid (fun k hk => by
          rcases Nat.lt_or_ge k j with h | h
          · exact hNo.out k h
          · obtain rfl : k = j := by omega
            rw [← HXE.out]; exact of_decide_eq_false HB.out), B2⟩
        case measure => simp [intOf] <;> omega
    · obtain rfl : j = L := by omega
      have FD := Lib.hid (find_not (st := st) (s := s) (fun k hk => hNo.out k (by rw [HL.out] at hk; exact hk)))
      have ED := Lib.hid (show reachF (f + 1) st s = (st.length, (edgesF (reachF f) (bodS s).length (bodS s) [] (st ++ [⟨s, false, []⟩])).2.set st.length ⟨s, finS s, (edgesF (reachF f) (bodS s).length (bodS s) [] (st ++ [⟨s, false, []⟩])).1⟩) from by conv => lhs; unfold reachF; rw [FD.out])
      have HH1 := Lib.hid (HH.out.below hB.out)
      have BO := B.o
      rw [hnl] at BO
      have BW := Lib.hid B; have EQ := Lib.hid eq; have HNL := Lib.hid hnl; have OWN := Lib.hid BO
      have AB := Lib.hid (show ∀ o w', (wr.alloc o).grownBy w' (Value.slice na j nc).ownBlock → w'.cell? ⟨g, 0, none⟩ = some (.slice na j nc) ∧ w'.frozen? ⟨g, 0, none⟩ = false from fun o w' hg => by
        have lg := lt_of_cell gc
        have o2 := (hg.block g (by simp; omega) (fun e => (BW.out.sn g (gown_at OWN.out e)).2 rfl)).trans (Below.heap_alloc wr o g lg)
        exact ⟨(World.cell?_of_block (w := wr) o2).trans gc, (World.frozen?_of_block (w := wr) o2).trans (BW.out.f 0)⟩)
      clear B eq hnl BO hNo hlt
      go_wp2_with (at_builtin; refine wpList_append_lies _ rfl (.tmp 42) (.tmp 45) 93 rfl 0 97 i0 _ 2 48 Try.underlying93 hi hz0 hz1 hz2 rfl (by omega) (.slice na j nc) j (nrV NL) (by rfl) (OWN.out.alloc _) ⟨wr.heap.size, 0, none⟩ 1 1 [.slice a n cap, .slice none 0 0] (by rfl) (by rfl) (World.news_of_block (cs := #[.slice a n cap, .slice none 0 0]) (t := 97) (fr := (0, 0)) (heap_alloc_new wr _)) (by simp [Value.oneCell']) (by omega) (by unfold maxLen; omega) (by omega) (by omega) (wr.heap.size + 1) (by simp) ?_; intro g3 c3' w3 hown3 hgrow3 hat3 hlt3; obtain ⟨x0, x1⟩ := AB.out _ _ hgrow3)
      have HSZ := OK.out.n
      obtain ⟨S0, hR0⟩ : ∃ S0, RK g w S F (st ++ [⟨s, false, []⟩]) none 0 [] S0 F (w3.setCell ⟨g, 0, none⟩ (.slice (some ⟨g3, 0, none⟩) (j + 1) c3')) := by
        obtain ⟨G1, G2, G3⟩ := BW.out.grow (o := .cells #[.slice a n cap, .slice none 0 0] 97) (s := s) (ra := a) (rc := cap) HH1.out (by omega) AF.out (by rw [HNL.out, HN.out]; exact hown3) (by rw [HNL.out]; exact hgrow3) (by rw [HNL.out]; exact hat3.imp id (fun e => by simp; exact e)) hlt3
        rw [HNL.out] at G1 G2
        exact ⟨_, ⟨_, _, _, G1, by rw [List.map_append, List.map_append, EQ.out]; rfl⟩, fun k hk => by
          rcases hk with hk | hk
          · exact Or.inl hk
          · rcases G3 with e | e
            · exact Or.inl (by rw [hk]; exact e)
            · exact Or.inr (by rw [hk]; have := hB.out.size; omega), fun k hk => Or.inl hk, fun k hk => hk, (Turn.of_below hB.out).trans G2, World.ownsRow_nil _ _ _ _, fun k e => (by cases e)⟩
      have R0 := Lib.hid hR0
      clear hR0 hown3 hgrow3 hat3 hlt3 x0 x1 AB OWN BW EQ HNL gc QR HH1 FD
      generalize w3.setCell ⟨g, 0, none⟩ (.slice (some ⟨g3, 0, none⟩) (j + 1) c3') = w5 at *
      obtain ⟨R, hR⟩ : ∃ r, edgesF (reachF f) (bodS s).length (bodS s) [] (st ++ [⟨s, false, []⟩]) = r := ⟨_, rfl⟩
      rw [hR] at ED
      have HR := Lib.hid hR
      have HOK := Lib.hid (show OkL f (bodS s) ∧ ∀ t ∈ bodS s, 0 < t.size from ⟨OK.out.bod, bod_pos OK.out.ord⟩)
      have hbl : (bodS s).length ≤ 100 := HOK.out.1.n
      have HWT := Lib.hid (show (st ++ [(⟨s, false, []⟩ : GN)]).length + wtS (bodS s) ≤ 1000000 from by rw [List.length_append, List.length_singleton]; have := wt_bod s; have := HWB.out; omega)
      have HLT := Lib.hid (show j < (st ++ [(⟨s, false, []⟩ : GN)]).length from by rw [List.length_append, List.length_singleton, HL.out]; omega)
      have HRS := Lib.hid (show ((st ++ [(⟨s, false, []⟩ : GN)]).getD j gn0).rests = s from by rw [← HL.out]; simp [List.getD_eq_getElem?_getD])
      clear hR HSZ
      go_wp2_with fail
      go_loopw [7, 8] (fun ev iv wr => ∃ (i k : Nat) (l : List Tx) (es : List EdP) (st1 : List GN) (S1 F1 : Nat → Prop) (ea : Option Addr) (ec : Nat), i ≤ n ∧ ev = .slice ea es.length ec ∧ iv = .int .i64 i ∧ l.length ≤ k ∧ es.length + k ≤ 100 ∧ Hid (bodS (s.drop i) = l) ∧ Hid (edgesF (reachF f) k l es st1 = R) ∧ Hid (OkL f l ∧ ∀ t ∈ l, 0 < t.size) ∧ Hid (st1.length + wtS l ≤ 1000000) ∧ Hid (j < st1.length) ∧ Hid ((st1.getD j gn0).rests = s) ∧ Hid (RK g w S F st1 ea ec es S1 F1 wr)) (fun _ iv _ => n - (intOf iv).toNat)
      case atStart => exact ⟨0, (bodS s).length, bodS s, [], _, S0, F, none, 0, by omega, rfl, rfl, Nat.le_refl _, by simpa using hbl, Lib.hid (by rw [List.drop_zero]), HR, HOK, HWT, HLT, HRS, R0⟩
      case round =>
        clear R0 HOK HWT HLT HRS HR hbl
        obtain ⟨i, k, l, es, st1, S1, F1, ea, ec, hi', rfl, rfl, hlk, hek, hBD, hE, hOK, hWT, hLT, hRS, hRK⟩ := hrel
        rename World => wr
        have HA := Lib.hid (show HoldsT wr a n s from by
          have h1 := HH.out
          rw [HN.out] at h1
          exact holdsT_turn h1 hRK.out.t (fun h0 fb fo e => (QW.out.fl fb (AF.out (by rw [HN.out]; exact h0) fb fo e)).1))
        by_cases hin : i < n
        · obtain ⟨b, o, rfl, hcc⟩ := HA.out.at (by omega)
          have xc := hcc i hin
          obtain ⟨t, ht⟩ : ∃ t, s.getD i ByteArray.empty = t := ⟨_, rfl⟩
          rw [ht] at xc
          have i1 : (0 : Int) ≤ (i : Int) := by omega
          have i2 : (i : Int) < (n : Int) := by omega
          have SD := Lib.hid (show s.drop i = t :: s.drop (i + 1) from by
            rw [List.drop_eq_getElem_cons (by rw [HN.out]; exact hin), ← ht, List.getD_eq_getElem?_getD, List.getElem?_eq_getElem (by rw [HN.out]; exact hin)]; rfl)
          obtain ⟨zf, hzf⟩ : ∃ z, t.toList.isEmpty = z := ⟨_, rfl⟩
          have hzt2 : (t.toList == []) = zf := by rw [← hzf]; cases t.toList <;> rfl
          clear hcc ht
          cases zf with
          | true =>
            have ht0 : t = (⟨#[]⟩ : ByteArray) := (tx_nil t).2 (List.isEmpty_iff.1 hzf)
            have HBN := Lib.hid (show bodS (s.drop (i + 1)) = l from by
              have h1 := hBD.out
              rw [SD.out, ht0, bod_skip] at h1
              rw [h1]; exact bod_same hOK.out.2)
            clear ht0
            go_wp2_with fail
            go_roundw
            case rel => exact ⟨i + 1, k, l, es, st1, S1, F1, ea, ec, by omega, rfl, by go_num, hlk, hek, HBN, hE, hOK, hWT, hLT, hRS, hRK⟩
            case measure => simp [intOf] <;> omega
          | false =>
            have hls : l = t :: s.drop (i + 1) := by
              rw [← hBD.out, SD.out]
              unfold bodS finS
              have h2 : t ≠ (⟨#[]⟩ : ByteArray) := fun e => by rw [(tx_nil t).1 e] at hzf; cases hzf
              simp [h2]
            have LS := Lib.hid (show l = s.drop i from by rw [hls, SD.out])
            have hl0 : l ≠ [] := by rw [hls]; simp
            have hpos : 0 < l.length := List.length_pos_iff.2 hl0
            have htl : t ∈ l := by rw [hls]; simp
            have ht0 : l.getD 0 ByteArray.empty = t := by rw [hls]; rfl
            have tg := hOK.out.1.lo t htl
            have tp := hOK.out.2 t htl
            have tz := hOK.out.1.sz t htl
            obtain ⟨k, rfl⟩ : ∃ k', k = k' + 1 := ⟨k - 1, by omega⟩
            obtain ⟨f', rfl⟩ : ∃ f', f = f' + 1 := by
              refine ⟨f - 1, ?_⟩
              have h1 := rst_len tg tp
              have h2 := hOK.out.1.hi t htl
              omega
            have C := Lib.hid (IHH.out f' rfl)
            have HFL := Lib.hid (fol_len l hl0)
            have HWF := Lib.hid (wt_fol hl0 hOK.out.1.lo hOK.out.2)
            have OKF := Lib.hid (hOK.out.1.fol hOK.out.2)
            have RF := Lib.hid (run_fol hl0)
            have RIN := Lib.hid (fun (m : Nat) (hm : m < (runL l).length) => run_in hm)
            have REN := Lib.hid (fun (h : (runL l).length < l.length) => run_end h)
            rw [ht0] at RF RIN REN
            have hEE := hE.out
            unfold edgesF at hEE
            rw [if_neg hl0] at hEE
            obtain ⟨⟨lab, rs⟩, hfo⟩ : ∃ r, folS l = r := ⟨_, rfl⟩
            rw [hfo] at hEE HFL HWF OKF RF
            obtain ⟨⟨ix, st2⟩, hre⟩ : ∃ r, reachF (f' + 1) st1 rs = r := ⟨_, rfl⟩
            simp only at hEE
            rw [hre] at hEE
            have HE := Lib.hid hEE
            have HRE := Lib.hid hre
            have RLN := Lib.hid (reach_len f' st1 rs OKF.out)
            rw [hre] at RLN
            obtain ⟨D, hD⟩ : ∃ D, rs.length = D := ⟨_, rfl⟩
            simp only at RF HFL HWF
            rw [hD] at RF HFL HWF HE
            have HD := Lib.hid hD
            have HLAB := Lib.hid (show lab = labS t from RF.out.1)
            have hDl := HFL.out
            have hln : l.length = n - i := by rw [LS.out, List.length_drop, HN.out]
            have CR := Lib.hid (r1runesq_any t wr (by omega))
            have CP := Lib.hid (fun w' => rprefix_one t w' (by omega) tg tp)
            have TG := Lib.hid tg; have HT0 := Lib.hid ht0
            have KR := Lib.hid (show 1 ≤ (runesS t).length ∧ (runesS t).getD 0 0 = labS t from by rw [rst_runes tg tp]; simp)
            clear hEE hre hE hfo hD hls hl0 htl ht0 tg tp tz hzf xc
            have RSE := Lib.hid (show rs = (l.take D).map rstS from by rw [RF.out.2.1, RF.out.2.2.2, RF.out.2.2.1])
            have RIN2 := Lib.hid (show ∀ m, m < D → labS (l.getD m ByteArray.empty) = labS t from fun m hm => (RIN.out m (by rw [RF.out.2.2.1]; exact hm)).1)
            have REN2 := Lib.hid (show D < l.length → labS (l.getD D ByteArray.empty) ≠ labS t from fun h => by have h1 := REN.out (by rw [RF.out.2.2.1]; exact h); rwa [RF.out.2.2.1] at h1)
            clear RIN REN RF
            have LC := Lib.hid (show ∀ (m : Nat), i + m < n → ∀ w', Below wr.heap.size wr w' → w'.cell? ⟨b, o + (i + m), none⟩ = some (.string (l.getD m ByteArray.empty)) from fun m hm w' hb => by
              obtain ⟨b', o', e, hcc⟩ := (HA.out.below hb).at (by omega)
              injection e with e; injection e with e1 e2; subst e1; subst e2
              rw [hcc (i + m) hm, LS.out]
              simp [List.getD_eq_getElem?_getD])
            have x0 := LC.out 0 (by omega) wr (Below.refl _ _)
            rw [HT0.out, Nat.add_zero] at x0
            obtain ⟨hd, hhd⟩ : ∃ h, headS t = h := ⟨_, rfl⟩
            rw [hhd] at CP
            have HHD := Lib.hid hhd
            have hds : hd.size ≤ t.size := by rw [← hhd]; exact (head_size TG.out (hOK.out.2 t (by rw [LS.out, SD.out]; simp))).2.1
            clear hhd
            go_wp2_with fail
            refine CR.out.mono ?_
            rintro e w6 (⟨h1, la, lc, rfl, h2, h3⟩ | ⟨h1, rfl, h3⟩)
            rotate_left
            · exact absurd TG.out (by omega)
            obtain ⟨kr, hkr⟩ : ∃ x, (runesS t).length = x := ⟨_, rfl⟩
            have KR1 := KR.out.1
            have HI : HoldsI .i32 w6 la kr (intsN (runesS t)) := by rw [← hkr]; exact holdsI_own h2
            rw [hkr] at KR1
            obtain ⟨lb, lo, rfl, hlc⟩ := HI.at (by omega)
            have lcell := hlc 0 (by omega)
            rw [show (intsN (runesS t)).getD 0 0 = (lab : Int) from by
              rw [HLAB.out, ← KR.out.2]
              simp [intsN, List.getD_eq_getElem?_getD, List.getElem?_eq_getElem (show 0 < (runesS t).length by omega)]] at lcell
            have LBS := Lib.hid (show ¬ S1 lb from fun hk => by have := hRK.out.q.lt lb hk; have := (own_blockG h2 rfl).1; omega)
            have R6 := Lib.hid (hRK.out.more h3)
            have B6 := Lib.hid h3
            have LC6 := Lib.hid lcell
            rw [hkr]
            clear h1 h2 h3 HI hlc lcell hkr x0 CR
            have x1 := LC.out 0 (by omega) w6 B6.out
            rw [HT0.out, Nat.add_zero] at x1
            go_wp2_with fail
            refine (CP.out w6).mono ?_
            rintro e w7 ⟨rfl, hb⟩
            have R7 := Lib.hid (R6.out.more hb)
            have B7 := Lib.hid (B6.out.trans (hb.mono B6.out.size))
            have LC7 := Lib.hid ((hb.cell (p := ⟨lb, lo + 0, none⟩) (lt_of_cell LC6.out)).trans LC6.out)
            clear hb x1 R6 LC6 B6
            go_wp2_with fail
            go_loopw [8, 12] (fun iv bv wq => ∃ (m : Nat) (oa : Option Addr) (oc on : Nat) (out : List Tx), m ≤ D ∧ on = out.length ∧ iv = .int .i64 ((i + m : Nat) : Int) ∧ bv = .slice oa on oc ∧ Hid (out = (l.take m).map rstS) ∧ Hid (FS w7.heap.size w7 (fun _ => False) oa oc out wq)) (fun iv _ _ => n - (intOf iv).toNat)
            case atStart => exact ⟨0, none, 0, 0, [], by omega, rfl, by simp, rfl, Lib.hid (by simp), Lib.hid (FS.start w7)⟩
            case round =>
              obtain ⟨m, oa, oc, on, out, hm, hon, rfl, rfl, hO, hF⟩ := hrel
              rename World => wq
              obtain ⟨zc, hzc⟩ : ∃ z, decide (m < D) = z := ⟨_, rfl⟩
              have HZC := Lib.hid hzc
              have BQ := Lib.hid (B7.out.trans (hF.out.b.mono B7.out.size))
              have HON := Lib.hid hon
              clear hzc hon
              go_upto_region 16 with fail
              go_cut [85] (fun u wd => u = .bool zc ∧ Hid (Below wq.heap.size wq wd))
              case first =>
                by_cases hlt : i + m < n
                · have d1 : decide ((i : Int) + (m : Int) < (n : Int)) = true := decide_eq_true (by omega)
                  have d2 : decide (i + m < n) = true := decide_eq_true hlt
                  have hml : m < l.length := by omega
                  obtain ⟨t', ht'⟩ : ∃ x, l.getD m ByteArray.empty = x := ⟨_, rfl⟩
                  have htm : t' ∈ l := by rw [← ht']; exact getD_tx hml
                  have x2 := LC.out m hlt wq BQ.out
                  rw [ht'] at x2
                  have tg' := hOK.out.1.lo t' htm
                  have tp' := hOK.out.2 t' htm
                  have tz' := hOK.out.1.sz t' htm
                  have CP' := Lib.hid (rprefix_one t' wq (by omega) tg' tp')
                  obtain ⟨hd', hhd'⟩ : ∃ h, headS t' = h := ⟨_, rfl⟩
                  have hz : (hd'.toList == hd.toList) = zc := by
                    have tp := hOK.out.2 t (by rw [LS.out, SD.out]; simp)
                    have h1 := head_lab (s := t') (t := t) tg' TG.out tp' tp
                    rw [hhd', HHD.out] at h1
                    rw [← HZC.out]
                    by_cases hmD : m < D
                    · rw [decide_eq_true hmD, h1.2 (by rw [← ht']; exact RIN2.out m hmD)]; exact str_same _
                    · obtain rfl : m = D := by omega
                      rw [decide_eq_false hmD]
                      exact str_other (fun e => REN2.out hml (by rw [ht']; exact h1.1 e))
                  rw [hhd'] at CP'
                  clear hhd' ht' htm tg' tp' tz'
                  go_wp2_with fail
                  refine CP'.out.mono ?_
                  rintro e w8 ⟨rfl, hb⟩
                  go_wp2_with fail
                  go_meet
                  exact ⟨rfl, Lib.hid hb⟩
                · have d1 : decide ((i : Int) + (m : Int) < (n : Int)) = false := decide_eq_false (by omega)
                  have d2 : decide (i + m < n) = false := decide_eq_false hlt
                  obtain rfl : zc = false := by rw [← HZC.out]; exact decide_eq_false (by omega)
                  go_wp2_with fail
                  go_meet
                  exact ⟨rfl, Lib.hid (Below.refl _ _)⟩
              case rest =>
                obtain ⟨rfl, hBq⟩ := hcut
                rename World => w9
                have F9 := Lib.hid (hF.out.more hBq.out)
                have B9 := Lib.hid (BQ.out.trans (hBq.out.mono BQ.out.size))
                clear hF hBq BQ
                cases zc with
                | true =>
                  have hmD : m < D := of_decide_eq_true HZC.out
                  have hml : m < l.length := by omega
                  have hlt : i + m < n := by omega
                  obtain ⟨t', ht'⟩ : ∃ x, l.getD m ByteArray.empty = x := ⟨_, rfl⟩
                  have x3 := LC.out m hlt w9 B9.out
                  rw [ht'] at x3
                  have htm : t' ∈ l := by rw [← ht']; exact getD_tx hml
                  have tg' := hOK.out.1.lo t' htm
                  have tp' := hOK.out.2 t' htm
                  have tz' := hOK.out.1.sz t' htm
                  have tp := hOK.out.2 t (by rw [LS.out, SD.out]; simp)
                  have hh' : headS t' = hd := by rw [← HHD.out]; exact (head_lab tg' TG.out tp' tp).2 (by rw [← ht']; exact RIN2.out m hmD)
                  have hsz' := (head_size tg' tp').2.1
                  rw [hh'] at hsz'
                  have HCUT := Lib.hid (show t'.extract hd.size t'.size = rstS t' from by rw [← hh']; exact head_cut tg' tp')
                  have HNX := Lib.hid (show out ++ [rstS t'] = (l.take (m + 1)).map rstS from by rw [take_txP2 l m hml, ht', List.map_append, hO.out]; rfl)
                  have hs1 : (hd.size : Int) ≤ (t'.size : Int) := by omega
                  have i3 : (0 : Int) ≤ ((i + m : Nat) : Int) := by omega
                  have i4 : ((i + m : Nat) : Int) < (n : Int) := by omega
                  have i5 : (0 : Int) ≤ (i : Int) + (m : Int) := by omega
                  have i6 : (i : Int) + (m : Int) < (n : Int) := by omega
                  have hbl := F9.out.bl
                  have hol : out.length ≤ 100 := by rw [hO.out, List.length_map, List.length_take]; omega
                  have hon := HON.out
                  subst hon
                  clear ht' htm tg' tp' tp hh'
                  go_wp2_with (at_builtin; refine wpList_append_lies _ rfl (.tmp 86) (.tmp 94) 22 rfl w7.heap.size 9 k0 _ 1 16 Try.underlying22 hk hx0 hx1 hx2 rfl (by omega) (.slice oa out.length oc) out.length (strsV out) (by rfl) (F9.out.o.alloc _) ⟨w9.heap.size, 0, none⟩ 1 1 [.string (t'.extract hd.size t'.size)] (by rfl) (by rfl) (World.news_of_block (cs := #[.string (t'.extract hd.size t'.size)]) (t := 9) (fr := (0, 0)) (heap_alloc_new w9 _)) (by simp [Value.oneCell']) (by omega) (by unfold maxLen; omega) (by omega) (by simp; omega) (w9.heap.size + 1) (by simp) ?_; intro g4 c4 w8 hown4 hgrow4 hat4 hlt4; have GR := Lib.hid (F9.out.grow hown4 hgrow4 (hat4.imp id (fun e => by simp; exact e))); clear hown4 hgrow4 hat4 hlt4)
                  rw [HCUT.out] at GR
                  go_roundw
                  case rel => exact ⟨m + 1, some ⟨g4, 0, none⟩, c4, out.length + 1, out ++ [rstS t'], by omega, by simp, by go_num, rfl, HNX, Lib.hid GR.out.1⟩
                  case measure => simp [intOf] <;> omega
                | false =>
                  have hmD : m = D := by have := of_decide_eq_false HZC.out; omega
                  subst hmD
                  obtain rfl : out = rs := hO.out.trans RSE.out.symm
                  have hon := HON.out
                  subst hon
                  have R9 := Lib.hid (R7.out.more (w' := w9) (by
                    have h1 := F9.out.b
                    exact h1))
                  have ROWS := Lib.hid (show ∀ k, (∃ fo, oa = some ⟨k, fo, none⟩) → ¬ S1 k ∧ k < w9.heap.size ∧ w.heap.size ≤ k ∧ ea ≠ some ⟨k, 0, none⟩ from fun k hk => by
                    obtain ⟨fo, e⟩ := hk
                    have h1 := own_blockG F9.out.o e
                    have h2 := R7.out.t.size
                    exact ⟨fun h => by have := R7.out.q.lt k h; omega, h1.2, by omega, fun e2 => by have := (R7.out.o.lt k (by rw [e2]; rfl)).2; omega⟩)
                  have R9d := Lib.hid ((R9.out.rows _ ROWS.out).more (Below.refl w9.heap.size w9).drew)
                  have C6 := Lib.hid (C.out st1 out oa oc S1 _ w9.drew R9d.out.q OKF.out ((HoldsT.own F9.out.o).below (Below.refl _ _).drew) (fun h0 fb fo e => Or.inr ⟨fo, e⟩) (owns_none F9.out.o).2 (by have := hWT.out; have := HWF.out; omega))
                  rw [HRE.out] at C6
                  have y0 : w9.drew.cell? ⟨lb, lo, none⟩ = some (.int .i32 (lab : Int)) := by
                    have h1 := (F9.out.b.cell (p := ⟨lb, lo + 0, none⟩) (lt_of_cell LC7.out)).trans LC7.out
                    rw [Nat.add_zero] at h1; exact h1
                  have hes : es.length ≤ 100 := by omega
                  have kr1 : (0 : Int) < (kr : Int) := by omega
                  have kr2 : 0 < kr := by omega
                  go_upto_region 19 with fail
                  go_region_law
                    (first
                      | (refine step_append_lies _ (by rfl) _ _ _ (by rfl) w.heap.size 67 j0 _ 2 16 Try.underlying49 hj hy0 hy1 hy2 rfl (by omega) (.slice ea es.length ec) es.length (edsV es) (by first | rfl | (simp [Act.eval]; done) | simp [Act.eval, Act.put]) (hR10.o.alloc _) ⟨w10.heap.size, 0, none⟩ 1 1 [.int .i32 (lab : Int), .int .i64 (ix : Int)] (by first | rfl | (simp [Act.eval]; done) | simp [Act.eval, Act.put]) (by rfl) (World.news_of_block (cs := #[.int .i32 (lab : Int), .int .i64 (ix : Int)]) (t := 67) (fr := (0, 0)) (heap_alloc_new w10 _)) (by simp [Value.oneCell']) (by omega) (by unfold maxLen; omega) (by omega) (by have := hR10.t.size; simp; omega) (w10.heap.size + 1) (by simp) ?_; intro g4 c4 w8 hown8 hgrow8 hat8 hlt8)
                      | (go_simp; go_at_call 51; (with_reducible refine C6.out.mono ?_); rintro e w10 ⟨rfl, hPO⟩; obtain ⟨S2, F2, hR10⟩ := R9d.out.step hPO; have y1 := (show w10.cell? ⟨lb, lo, none⟩ = some (.int .i32 (lab : Int)) from by (obtain ⟨_, _, _, _, _, _, t2⟩ := hPO; exact (t2.cell (lt_of_cell y0) LBS.out).trans y0))))
                  all_goals
                    have RN := Lib.hid (hR10.edge (x := ⟨(lab : Int), (ix : Int)⟩) hown8 hgrow8 (hat8.imp id (fun e => by simp; exact e))).1
                    have DRP := Lib.hid (show bodS (s.drop (i + m)) = l.drop m from by
                      have h1 : s.drop (i + m) = l.drop m := by rw [LS.out, List.drop_drop]
                      rw [h1]; exact bod_same (fun u hu => hOK.out.2 u (List.mem_of_mem_drop hu)))
                    have RSN := Lib.hid (show (st2.getD j gn0).rests = s from by rw [← hRS.out]; have := reach_rests f' st1 out OKF.out j hLT.out; rw [HRE.out] at this; exact this)
                    clear hown8 hgrow8 hat8 hlt8 hR10 y1 y0
                    go_wp2_with fail
                    go_roundw
                    case rel => exact ⟨i + m, by omega, k, l.drop m, es ++ [⟨(lab : Int), (ix : Int)⟩], st2, S2, F2, some ⟨g4, 0, none⟩, c4, ⟨rfl, by simp, rfl⟩, by omega, by rw [List.length_drop]; omega, by simp; omega, DRP, HE, Lib.hid ⟨hOK.out.1.drop _, fun t ht => hOK.out.2 t (List.mem_of_mem_drop ht)⟩, Lib.hid (by have := hWT.out; have := HWF.out; have := RLN.out; omega), Lib.hid (by have := hLT.out; have := RLN.out; omega), Lib.hid (by have := RSN.out; rwa [List.getD_eq_getElem?_getD] at this), RN⟩
                    case measure => simp [intOf] <;> omega
        · obtain rfl : i = n := by omega
          have hl : l = [] := by rw [← hBD.out, List.drop_of_length_le (by rw [HN.out]; omega)]; rfl
          subst hl
          have HRR := Lib.hid (show R = (es, st1) from by
            rw [← hE.out]
            cases k with
            | zero => rfl
            | succ k => unfold edgesF; rw [if_pos rfl])
          obtain ⟨nc1, q, gc, ⟨v, hv⟩, hqf, hPO⟩ := hRK.out.target j hLT.out s hRS.out (finS s)
          have f1 := hqf (j * 2 + 1)
          have i1 : (0 : Int) ≤ (j : Int) := by omega
          have i2 : (j : Int) < (st1.length : Int) := by have := hLT.out; omega
          have FIN := Lib.hid hPO
          clear hPO hqf
          go_wp2_with fail
          go_ret
          rw [ED.out, HRR.out, HL.out]
          exact ⟨rfl, FIN.out⟩
theorem add_any (g : Nat) : ∀ f, AddAny g f := by
  intro f
  induction f with
  | zero => exact add_step g 0 (fun f' e => by omega)
  | succ f ih => exact add_step g (f + 1) (fun f' e => by obtain rfl : f = f' := by omega
                                                          exact ih)
end Go.Proofs.Ytlcmndbnknifhaa
/- contract of the document's Len -/
namespace Go.Proofs.Ytlcmndbnknifhaa
open Go.RowKit
set_option linter.unusedVariables false
set_option maxRecDepth 20000
set_option maxHeartbeats 800000 in
theorem rlen_any (s : ByteArray) (w : World) (hs : s.size ≤ 1048576) :
    Calls Try.prog 94 #[.string s] w fun e w' => e = .returned (.int .i64 (lenS s)) ∧ Below w.heap.size w w' := by
  have hr := Lib.hid (r1runes_any s w hs)
  by_cases hg : 0 ≤ lenS s
  · have hL := (lenS_pos hg).2
    have HL := Lib.hid hL; have HG := Lib.hid hg
    clear hg hL
    obtain ⟨n, hn⟩ : ∃ n, (runesS s).length = n := ⟨_, rfl⟩
    have hle := runesS_le s
    unfold RunesP at hr
    rw [hn] at hr hle
    rw [hn] at HL
    clear hn
    go_enter Try.func94, Try.ntmps94
    go_wp2_with fail
    refine hr.out.mono ?_
    rintro e w1 (⟨h1, a, c, rfl, h2, h3, h4⟩ | ⟨h1, _⟩)
    rotate_left
    · exact absurd HG.out (by omega)
    have H4 := Lib.hid h4
    clear h1 h2 h3 h4
    go_wp2_with fail
    go_ret
    exact ⟨ret_int HL.out.symm, H4.out⟩
  · have hb : lenS s = -1 := by have := (lenS_bd s).1; omega
    have HB := Lib.hid hb; have HG := Lib.hid hg
    clear hg hb
    go_enter Try.func94, Try.ntmps94
    go_wp2_with fail
    refine hr.out.mono ?_
    rintro e w1 (⟨h1, _⟩ | ⟨h1, rfl, h2⟩)
    · exact absurd h1 (by have := HG.out; omega)
    clear h1
    go_wp2_with fail
    go_ret
    exact ⟨ret_int HB.out.symm, h2⟩
end Go.Proofs.Ytlcmndbnknifhaa
/- contract of the document's Word -/
namespace Go.Proofs.Ytlcmndbnknifhaa
open Go.RowKit
set_option linter.unusedVariables false
set_option maxRecDepth 20000
theorem rword_any (s : ByteArray) (w : World) (hs : s.size ≤ 1048576) :
    Calls Try.prog 75 #[.string s] w fun e w' => e = .returned (.bool (decide (1 ≤ lenS s ∧ lenS s ≤ 12))) ∧ Below w.heap.size w w' := by
  have h1 := Lib.hid (fun w => rlen_any s w hs)
  obtain ⟨n, hn⟩ : ∃ n, lenS s = n := ⟨_, rfl⟩
  rw [hn]
  simp only [hn] at h1
  clear hn
  by_cases h : 1 ≤ n
  · rw [show decide (1 ≤ n ∧ n ≤ 12) = decide (n ≤ 12) by simp [h]]
    go_enter Try.func75, Try.ntmps75
    go_wp2_with fail
    refine (h1.out _).mono ?_
    rintro e w1 ⟨rfl, hb⟩
    go_wp2_with fail
    refine (h1.out _).mono ?_
    rintro e w2 ⟨rfl, hb2⟩
    go_wp2_with fail
    go_ret
    exact ⟨rfl, hb.trans (hb2.mono hb.size)⟩
  · rw [show decide (1 ≤ n ∧ n ≤ 12) = false by simp [h]]
    go_enter Try.func75, Try.ntmps75
    go_wp2_with fail
    refine (h1.out _).mono ?_
    rintro e w1 ⟨rfl, hb⟩
    go_wp2_with fail
    go_ret
    exact ⟨rfl, hb⟩
end Go.Proofs.Ytlcmndbnknifhaa
/- contract of the document's Good (lists) -/
namespace Go.Proofs.Ytlcmndbnknifhaa
open Go.RowKit
set_option linter.unusedVariables false
set_option maxRecDepth 20000
theorem rword_bool {w : World} (s : Tx) (b : Bool) (hs : s.size ≤ 1048576) (hb : decide (wordP s) = b) :
    Calls Try.prog 75 #[.string s] w fun e w' => e = .returned (.bool b) ∧ Below w.heap.size w w' := by subst hb; exact rword_any s w hs
set_option maxHeartbeats 1600000 in
theorem rgood_any (a : Option Addr) (n cap : Nat) (ts : List Tx) (w : World) (hh : HoldsT w a n ts) (hn : n ≤ 9223372036854775807) (hsz : ∀ t ∈ ts, t.size ≤ 1048576) :
    Calls Try.prog 50 #[.slice a n cap] w fun e w' => e = .returned (.int .i64 (goodV ts)) ∧ Below w.heap.size w w' := by
  have hl := hh.len
  by_cases h60 : n ≤ 60
  case neg =>
    rw [goodV_long (by omega)]
    go_enter Try.func50, Try.ntmps50
    go_wp2_with fail
    go_ret
    exact ⟨rfl, Below.refl _ _⟩
  go_enter Try.func50, Try.ntmps50
  go_wp2_with fail
  go_loopw [3] (fun iv wr => ∃ j : Nat, j ≤ n ∧ iv = .int .i64 j ∧ Hid (∀ t ∈ ts.take j, wordP t) ∧ Hid (Below w.heap.size w wr)) (fun iv _ => n - (intOf iv).toNat)
  case atStart => exact ⟨0, by omega, rfl, Lib.hid (by simp), Lib.hid (Below.refl _ _)⟩
  case round =>
    obtain ⟨j, hj, rfl, hS, hB⟩ := hrel
    by_cases hlt : j < n
    · obtain ⟨b, o, rfl, hc⟩ := (hh.below hB.out).at (by omega)
      have e1 := hc j hlt
      have hmem := getD_memT ts j (by omega)
      have htk := take_succ_getD ts ByteArray.empty j (by omega)
      obtain ⟨x, hx⟩ : ∃ x, ts.getD j ByteArray.empty = x := ⟨_, rfl⟩
      rw [hx] at e1 hmem htk
      have HX := Lib.hid (hsz x hmem)
      have HM := Lib.hid hmem; have HT := Lib.hid htk
      clear hx hmem htk hc
      by_cases hw : wordP x
      · have hb := decide_eq_true hw
        have HW := Lib.hid hw; have HD := Lib.hid hb
        clear hw hb
        go_wp2_with fail
        refine (rword_bool x true HX.out HD.out).mono ?_
        rintro e w2 ⟨rfl, hb2⟩
        go_wp2_with fail
        go_roundw
        case rel => exact ⟨j + 1, by omega, by go_num, Lib.hid (by rw [HT.out]; intro z hz; rcases List.mem_append.1 hz with hz | hz; exact hS.out z hz; simp at hz; rw [hz]; exact HW.out), Lib.hid (hB.out.trans (hb2.mono hB.out.size))⟩
        case measure => simp [intOf]; omega
      · have hb := decide_eq_false hw
        have hg := goodV_word (by omega) x HM.out hw
        have HD := Lib.hid hb; have HG := Lib.hid hg
        clear hw hb hg
        go_wp2_with fail
        refine (rword_bool x false HX.out HD.out).mono ?_
        rintro e w2 ⟨rfl, hb2⟩
        go_wp2_with fail
        go_ret
        exact ⟨ret_int HG.out.symm, hB.out.trans (hb2.mono hB.out.size)⟩
    · have hjn : ts.take j = ts := List.take_of_length_le (by omega)
      have hwd := hS.out
      rw [hjn] at hwd
      have HW := Lib.hid hwd
      have hB1 := hB
      clear hjn hwd hS hB
      go_wp2_with fail
      go_loopw [4] (fun iv wr2 => ∃ i : Nat, 1 ≤ i ∧ i ≤ n + 1 ∧ iv = .int .i64 i ∧ Hid (∀ k, k + 1 < i → k + 1 < n → cmpS (ts.getD k ByteArray.empty) (ts.getD (k + 1) ByteArray.empty) < 0) ∧ Hid (Below w.heap.size w wr2)) (fun iv _ => n + 1 - (intOf iv).toNat)
      case atStart => exact ⟨1, by omega, by omega, rfl, Lib.hid (fun k h1 => by omega), hB1⟩
      case round =>
        obtain ⟨i, hi1, hi2, rfl, hS, hB⟩ := hrel
        by_cases hlt2 : i < n
        · obtain ⟨b, o, rfl, hc⟩ := (hh.below hB.out).at (by omega)
          have e1 := hc i hlt2
          have e2 := hc (i - 1) (by omega)
          have hci := hS.out
          obtain ⟨q, rfl⟩ : ∃ q, i = q + 1 := ⟨i - 1, by omega⟩
          simp only [Nat.add_sub_cancel] at e2
          obtain ⟨x, hx⟩ : ∃ x, ts.getD q ByteArray.empty = x := ⟨_, rfl⟩
          obtain ⟨y, hy⟩ : ∃ y, ts.getD (q + 1) ByteArray.empty = y := ⟨_, rfl⟩
          rw [hx] at e2; rw [hy] at e1
          have HX := Lib.hid hx; have HY := Lib.hid hy
          clear hx hy hc hci
          have hsx := hsz x (by rw [← HX.out]; exact getD_memT ts q (by omega))
          have hsy := hsz y (by rw [← HY.out]; exact getD_memT ts (q + 1) (by omega))
          have hcmp := Lib.hid (fun w => rcompare_quiet x y w hsx hsy)
          have hbd := cmpS_bd x y
          obtain ⟨v, hv⟩ : ∃ v, cmpS x y = v := ⟨_, rfl⟩
          rw [hv] at hbd
          simp only [hv] at hcmp
          have HV := Lib.hid hv
          clear hv
          have hr : IntKind.i64.wrap (((q + 1 : Nat) : Int) - 1) = (q : Int) := by rw [IntWalk.i64_in _ (by omega)]; omega
          have hr2 : ((q + 1 : Nat) : Int) - 1 = (q : Int) := by omega
          have g1 : (q : Int) < (n : Int) := by omega
          have g2 : ((q + 1 : Nat) : Int) < (n : Int) := by omega
          by_cases hvn : v < 0
          · go_upto_region 11 with fail
            go_quiet ((go_at_call 76; exact Calls.quiet_of (hcmp.out _)))
            go_wp2_with fail
            go_roundw
            case rel =>
              refine ⟨q + 1 + 1, by omega, by omega, by go_num, Lib.hid (fun k h1 h2 => ?_), Lib.hid (hB.out.trans ((below_drewN _ _).mono hB.out.size))⟩
              by_cases hk : k = q
              · subst hk; rw [HX.out, HY.out, HV.out]; exact hvn
              · exact hS.out k (by omega) h2
            case measure => simp [intOf]; omega
          · have hg := goodV_sort (by omega) HW.out (fun hs => hvn (by have := (adj_iff ts).1 hs q (by omega); rw [HX.out, HY.out, HV.out] at this; exact this))
            have HG := Lib.hid hg
            clear hg
            go_upto_region 11 with fail
            go_quiet ((go_at_call 76; exact Calls.quiet_of (hcmp.out _)))
            go_wp2_with fail
            go_ret
            exact ⟨ret_int HG.out.symm, hB.out.trans ((below_drewN _ _).mono hB.out.size)⟩
        · have hg := goodV_good (by omega) HW.out ((adj_iff ts).2 fun k hk => hS.out k (by omega) (by omega))
          have HG := Lib.hid hg
          clear hg
          go_wp2_with fail
          go_ret
          exact ⟨ret_int HG.out.symm, hB.out⟩
end Go.Proofs.Ytlcmndbnknifhaa
/- the document's graph: Build, Final, Edges, Next, From -/
namespace Go.Proofs.Ytlcmndbnknifhaa
open Go.RowKit
set_option linter.unusedVariables false
set_option maxRecDepth 20000
theorem RQ.node {g : Nat} {st : List GN} {w : World} {S F : Nat → Prop} (h : RQ g st w S F) {k : Nat} (hk : k < st.length) : ∃ q nc ra rc ea ec, w.cell? ⟨g, 0, none⟩ = some (.slice (some ⟨q, 0, none⟩) st.length nc) ∧
    w.cell? ⟨q, k * 2, none⟩ = some (.slice ra (st.getD k gn0).rests.length rc) ∧ w.cell? ⟨q, k * 2 + 1, none⟩ = some (.slice ea (st.getD k gn0).edges.length ec) ∧ HoldsT w ra (st.getD k gn0).rests.length (st.getD k gn0).rests ∧ HoldsEd w ea (st.getD k gn0).edges.length (st.getD k gn0).edges ∧ (ea = none → (st.getD k gn0).edges.length = 0 ∧ ec = 0) := by
  obtain ⟨na, nc, NL, B, eq⟩ := h
  obtain ⟨hl, hx⟩ := B.len eq
  obtain ⟨q, rfl, c0, c1⟩ := B.at (i := k) (by omega)
  have hm := mem_nr (L := NL) (i := k) (by omega)
  have he := B.e _ hm
  have hr := B.r _ hm
  obtain ⟨x1, x2⟩ := hx k hk
  refine ⟨q, nc, (NL.getD k nr0).ra, (NL.getD k nr0).rc, (NL.getD k nr0).ea, (NL.getD k nr0).ec, by rw [← hl]; exact B.c, by rw [← x1]; exact c0, by rw [← x2]; exact c1, by rw [← x1]; exact hr.1, by rw [← x2]; exact he.1, by rw [← x2]; exact he.2.1.1⟩
theorem RQ.len {g : Nat} {st : List GN} {w : World} {S F : Nat → Prop} (h : RQ g st w S F) : ∃ na nc, w.cell? ⟨g, 0, none⟩ = some (.slice na st.length nc) := by
  obtain ⟨na, nc, NL, B, eq⟩ := h
  obtain ⟨hl, hx⟩ := B.len eq
  exact ⟨na, nc, by rw [← hl]; exact B.c⟩
structure CtxR (w0 w : World) (g : Nat) (st : List GN) (S F : Nat → Prop) : Prop where
  Q : RQ g st w S F
  s : ∀ k, S k → w0.heap.size ≤ k
  b : Below w0.heap.size w0 w
theorem CtxR.more {w0 w w' : World} {g : Nat} {st : List GN} {S F : Nat → Prop} (c : CtxR w0 w g st S F) (hb : Below w.heap.size w w') : CtxR w0 w' g st S F :=
  ⟨c.Q.below hb, c.s, c.b.trans (hb.mono c.b.size)⟩
theorem rbuild_bad (a : Option Addr) (n cap : Nat) (ts : List Tx) (v : Int) (w : World) (hh : HoldsT w a n ts) (hn : n ≤ 9223372036854775807) (hs : ∀ t ∈ ts, t.size ≤ 1048576) (hv : goodV ts = v) (h0 : v ≠ 0) :
    Calls Try.prog 27 #[.slice a n cap] w fun e w' => e = .returned (.tuple #[.pointer none, .int .i64 v]) ∧ Below w.heap.size w w' := by
  have CG := Lib.hid (rgood_any a n cap ts w hh hn hs)
  rw [hv] at CG
  have hne : (v != 0) = true := by simpa using h0
  clear hh hs hv h0
  go_enter Try.func27, Try.ntmps27
  go_wp2_with fail
  refine CG.out.mono ?_
  rintro e w1 ⟨rfl, hb⟩
  have B1 := Lib.hid hb
  clear hb
  go_wp2_with fail
  go_ret2
  exact ⟨rfl, B1.out⟩
set_option maxHeartbeats 800000 in
theorem rbuild_good {w0 : World} (a : Option Addr) (n cap : Nat) (ts : List Tx) (st : List GN) (w : World) (hw : Below w0.heap.size w0 w) (hh : HoldsT w a n ts) (hc : n ≤ cap) (hn : n ≤ 9223372036854775807) (hs : ∀ t ∈ ts, t.size ≤ 100) (hv : goodV ts = 0) (hst : grS ts = st) :
    Calls Try.prog 27 #[.slice a n cap] w fun e w' => ∃ g S F, e = .returned (.tuple #[.pointer (some ⟨g, 0, none⟩), .int .i64 0]) ∧ CtxR w0 w' g st S F ∧ Below w.heap.size w w' := by
  subst hst
  have CG := Lib.hid (rgood_any a n cap ts w hh hn (fun t ht => by have := hs t ht; omega))
  rw [hv] at CG
  have OK := Lib.hid (ok_good hv hs)
  have WT := Lib.hid (show ([] : List GN).length + wtS ts + 1 ≤ 1000000 from by have h1 := wt_good ts OK.out.hi; have h2 := OK.out.n; simp; omega)
  have HL := hh.len
  have HH := Lib.hid hh
  have BW := Lib.hid hw
  clear hh hs hv hw
  subst HL
  go_enter Try.func27, Try.ntmps27
  go_wp2_with fail
  refine CG.out.mono ?_
  rintro e w1 ⟨rfl, hb⟩
  have B1 := Lib.hid hb
  have H1 := Lib.hid (HH.out.below hb)
  clear hb CG
  have B2 := Lib.hid (below_one w1 (.cells #[.slice none 0 0] 95))
  have Q2 := Lib.hid (show RQ w1.heap.size [] (w1.alloc (.cells #[.slice none 0 0] 95)) (fun k => k = w1.heap.size) (fun k => 0 < ts.length ∧ ∃ fo, a = some ⟨k, fo, none⟩) from
    ⟨none, 0, [], ⟨by rw [cell_alloc rfl]; rfl, fun i => frozen_alloc rfl, World.ownsRow_nil _ _ _ _, fun x hx => by simp at hx, fun x hx => by simp at hx, rfl, fun q e => (by cases e), fun k hk => (by rw [hk]; simp), fun k hk => by
      obtain ⟨h0, fo, e⟩ := hk
      obtain ⟨b, o, e2, hcc⟩ := H1.out.at h0
      rw [e] at e2
      injection e2 with e2; injection e2 with e2 e3
      have h1 := lt_of_cell (hcc 0 h0)
      subst e2
      have h2 : k < w1.heap.size := h1
      exact ⟨fun e4 => by omega, by simp; omega⟩⟩, rfl⟩)
  have CA := Lib.hid (add_any w1.heap.size 12 [] ts a cap _ _ _ Q2.out OK.out (H1.out.below B2.out) (fun h0 fb fo e => ⟨h0, fo, e⟩) hc WT.out)
  clear H1 HH hc
  go_wp2_with fail
  refine CA.out.mono ?_
  rintro e w3 ⟨rfl, S, F, hq, hs, hf, hu, ht⟩
  have FIN := Lib.hid (show CtxR w0 w3 w1.heap.size (grS ts) S F ∧ Below w.heap.size w w3 from by
    have hz := B1.out.size
    have hz0 := BW.out.size
    have hB3 : Below w.heap.size w w3 := (B1.out.trans (B2.out.mono hz)).trans (ht.below (fun k hk => by rw [hk]; exact hz) (Nat.le_trans hz B2.out.size))
    refine ⟨⟨hq, fun k hk => ?_, BW.out.trans (hB3.mono hz0)⟩, hB3⟩
    rcases hs k hk with h | h
    · rw [h]; omega
    · have := B2.out.size; omega)
  clear hq hs hf hu ht CA Q2 WT
  go_wp2_with fail
  go_ret2
  exact ⟨_, S, F, rfl, FIN.out.1, FIN.out.2⟩
set_option maxHeartbeats 800000 in
theorem rFinal_any (g : Nat) (st : List GN) (S F : Nat → Prop) (n : Int) (w : World) (h : RQ g st w S F) (hf : ∀ x ∈ st, x.final = finS x.rests) : Calls Try.prog 53 #[.pointer (some ⟨g, 0, none⟩), .int .i64 n] w fun e w' => e = .returned (.bool (finG st n)) ∧ w = w' := by
  by_cases h0 : n < 0
  · have e : finG st n = false := by unfold finG hasG; rw [decide_eq_false (by omega)]; rfl
    have d1 : decide (n ≥ (0 : Int)) = false := decide_eq_false (by omega)
    have E := Lib.hid e
    clear e
    go_enter Try.func53, Try.ntmps53
    go_wp2_with fail
    go_ret
    rw [E.out]
    exact ⟨rfl, rfl⟩
  obtain ⟨k, rfl⟩ : ∃ k : Nat, n = (k : Int) := ⟨n.toNat, by omega⟩
  have d1 : decide ((k : Int) ≥ (0 : Int)) = true := decide_eq_true (by omega)
  by_cases hk : k < st.length
  · obtain ⟨q, nc, ra, rc, ea, ec, c0, c1, c2, c3, c4, -⟩ := h.node hk
    have hx : st.getD k gn0 ∈ st := by rw [List.getD_eq_getElem?_getD, List.getElem?_eq_getElem hk]; simp
    have e : finG st (k : Int) = finS (st.getD k gn0).rests := by
      unfold finG hasG; rw [decide_eq_true (by omega), Int.toNat_natCast, hf _ hx]; rfl
    obtain ⟨l, hl⟩ : ∃ l, (st.getD k gn0).rests = l := ⟨_, rfl⟩
    rw [hl] at c1 c3 e
    have d2 : decide ((k : Int) < (st.length : Int)) = true := decide_eq_true (by omega)
    have i1 : (0 : Int) ≤ (k : Int) := by omega
    have i2 : (k : Int) < (st.length : Int) := by omega
    have E := Lib.hid e
    clear e hl hx c2 c4 h hf h0
    rcases Nat.eq_zero_or_pos l.length with hz | hz
    · have hl0 : l = [] := List.eq_nil_of_length_eq_zero hz
      subst hl0
      simp only [List.length_nil] at c1
      go_enter Try.func53, Try.ntmps53
      go_wp2_with fail
      go_ret
      rw [E.out]
      exact ⟨rfl, rfl⟩
    · obtain ⟨b, o, rfl, hc⟩ := c3.at hz
      have x0 := hc 0 hz
      obtain ⟨t, ht⟩ : ∃ t, l.getD 0 ByteArray.empty = t := ⟨_, rfl⟩
      rw [ht, Nat.add_zero] at x0
      have d3 : decide ((l.length : Int) > (0 : Int)) = true := decide_eq_true (by omega)
      have i3 : (0 : Int) < (l.length : Int) := by omega
      obtain ⟨zf, hzf⟩ : ∃ z, t.toList.isEmpty = z := ⟨_, rfl⟩
      have hzt2 : (t.toList == []) = zf := by rw [← hzf]; cases t.toList <;> rfl
      have hfz : finS l = zf := by
        rw [← hzf]
        have hs2 : l.head? = some t := by
          cases hs3 : l with
          | nil => rw [hs3] at hz; simp at hz
          | cons t' l' => rw [hs3] at ht; simp at ht; simp [ht]
        unfold finS
        rw [hs2, Bool.eq_iff_iff]
        simp only [decide_eq_true_eq, List.isEmpty_iff]
        constructor
        · intro h; exact (tx_nil t).1 (by injection h)
        · intro h; rw [(tx_nil t).2 h]
      have EZ := Lib.hid (show finG st (k : Int) = zf from by rw [E.out, hfz])
      clear hfz ht hc c3 E
      generalize l.length = m at *
      go_enter Try.func53, Try.ntmps53
      go_wp2_with fail
      go_ret
      rw [EZ.out]
      exact ⟨by first | rfl | (rw [hzt2]; rfl) | (rw [hzf]; rfl) | rw [hzt2] | rw [hzf], rfl⟩
  · obtain ⟨na, nc, c0⟩ := h.len
    have e : finG st (k : Int) = false := by unfold finG hasG; rw [decide_eq_false (by omega)]; rfl
    have d2 : decide ((k : Int) < (st.length : Int)) = false := decide_eq_false (by omega)
    have E := Lib.hid e
    clear e
    go_enter Try.func53, Try.ntmps53
    go_wp2_with fail
    go_ret
    rw [E.out]
    exact ⟨rfl, rfl⟩
end Go.Proofs.Ytlcmndbnknifhaa
/- the document's graph: Next, From -/
namespace Go.Proofs.Ytlcmndbnknifhaa
open Go.RowKit
set_option linter.unusedVariables false
set_option maxRecDepth 20000
theorem from_stop (l m : List Tx) (lo : Tx) (most : Int) (h : most ≤ ((fromL l lo most).length : Int)) : fromL (l ++ m) lo most = fromL l lo most := by
  unfold fromL at *
  rw [List.filter_append]
  have h1 := List.length_take (i := most.toNat) (l := l.filter (fun t => !decide (cmpS t lo < 0)))
  rw [List.take_append_of_le_length (by omega)]
theorem from_snoc (l : List Tx) (x lo : Tx) (most : Int) (h : ((fromL l lo most).length : Int) < most) : fromL (l ++ [x]) lo most = if cmpS x lo < 0 then fromL l lo most else fromL l lo most ++ [x] := by
  unfold fromL at *
  have h1 := List.length_take (i := most.toNat) (l := l.filter (fun t => !decide (cmpS t lo < 0)))
  rw [List.filter_append]
  by_cases hc : cmpS x lo < 0
  · rw [if_pos hc]; simp [hc]
  · rw [if_neg hc, List.take_of_length_le (l := l.filter _) (by omega), List.take_of_length_le]
    · simp [hc]
    · simp [hc]; omega
end Go.Proofs.Ytlcmndbnknifhaa
/- pack: the document's Seal, Encode, Of -/
namespace Go.Proofs.Ytlcmndbnknifhaa
open Go.RowKit
set_option linter.unusedVariables false
set_option maxRecDepth 20000
theorem rSeal_any (a : Option Addr) (n cap : Nat) (bs : List Nat) (w : World) (h : HoldsB w a n bs) (hnil : a = none → n = 0 ∧ cap = 0) (hn : n ≤ 524288) :
    Calls Try.prog 54 #[.slice a n cap] w (RetB 5 w (sealB bs)) := by
  have CS := Lib.hid (rsumOf_any a n cap bs w h (by omega))
  obtain ⟨c, hc⟩ : ∃ c, Crc.sum bs = c := ⟨_, rfl⟩
  have hc32 : c < 4294967296 := by rw [← hc]; exact sum_lt9 bs
  have CP := Lib.hid (rput_any a n cap bs (c : Int) 4 w h hnil hn)
  rw [bits_nat9 c (by omega), show sizeV 4 = 4 from rfl] at CP
  unfold sealB
  rw [hc] at CS ⊢
  obtain ⟨o, ho⟩ : ∃ o, bs ++ Cod.bytesOf c 4 = o := ⟨_, rfl⟩
  rw [ho] at CP ⊢
  clear h hnil hc ho
  go_enter Try.func54, Try.ntmps54
  go_wp2_with fail
  with_reducible refine CS.out.mono ?_
  rintro e w' ⟨rfl, rfl⟩
  go_wp2_with fail
  with_reducible refine CP.out.mono ?_
  rintro e w' ⟨a2, c2, rfl, h1, h2, h3⟩
  have O := Lib.hid h1; have B := Lib.hid h2; have N := Lib.hid h3
  clear h1 h2 h3 CS CP
  go_wp2_with fail
  go_ret
  exact ⟨a2, c2, rfl, O.out, B.out, N.out⟩
/-- bytes that a slice holds, whoever made them -/
structure HB9 (w0 : World) (bs : List Nat) (a : Option Addr) (c : Nat) (w : World) : Prop where
  h : HoldsB w a bs.length bs
  n : a = none → bs.length = 0 ∧ c = 0
  b : Below w0.heap.size w0 w
theorem HB9.more {w0 w w' : World} {bs : List Nat} {a : Option Addr} {c : Nat} (h : HB9 w0 bs a c w) (hb : Below w.heap.size w w') : HB9 w0 bs a c w' := ⟨h.h.below hb, h.n, h.b.trans (hb.mono h.b.size)⟩
theorem rput9 (v : Int) (s : Nat) (si : Int) (hsi : si = (s : Int)) (hs : s ≤ 8) (o : List Nat) {w0 w : World} {bs : List Nat} {a : Option Addr} {c : Nat} (h : HB9 w0 bs a c w) (hl : bs.length ≤ 524288) (ho : bs ++ Cod.bytesOf (bitsV v) s = o) :
    Calls Try.prog 52 #[.slice a bs.length c, .int .i64 v, .int .i64 si] w fun e w' => ∃ a2 c2, e = .returned (.slice a2 o.length c2) ∧ HB9 w0 o a2 c2 w' ∧ Below w.heap.size w w' := by
  subst ho hsi
  refine (rput_any a bs.length c bs v (s : Int) w h.h h.n hl).mono ?_
  rintro e w' ⟨a2, c2, rfl, h1, h2, h3⟩
  have e1 : sizeV (s : Int) = s := by unfold sizeV; omega
  rw [e1] at h1 h3 ⊢
  exact ⟨a2, c2, rfl, ⟨holdsB_of_values (owns_holds h1) (fun x hx => by
    rcases List.mem_append.1 hx with hx | hx
    · exact h.h.2 x hx
    · exact Cod.bytesOf_lt _ _ x hx), h3, h.b.trans (h2.mono h.b.size)⟩, h2⟩
theorem bc2_carry {w w' w'' : World} {p1 i1 p2 i2 : Nat} {v1 v2 : Value} (h : Below w.heap.size w w' ∧ w'.cell? ⟨p1, i1, none⟩ = some v1 ∧ w'.cell? ⟨p2, i2, none⟩ = some v2) (hb : Below w'.heap.size w' w'') : Below w.heap.size w w'' ∧ w''.cell? ⟨p1, i1, none⟩ = some v1 ∧ w''.cell? ⟨p2, i2, none⟩ = some v2 :=
  ⟨h.1.trans (hb.mono h.1.size), (hb.cell (p := ⟨p1, i1, none⟩) (lt_of_cell h.2.1)).trans h.2.1, (hb.cell (p := ⟨p2, i2, none⟩) (lt_of_cell h.2.2)).trans h.2.2⟩
theorem bc2_start {w : World} {p1 i1 p2 i2 : Nat} {v1 v2 : Value} (h1 : w.cell? ⟨p1, i1, none⟩ = some v1) (h2 : w.cell? ⟨p2, i2, none⟩ = some v2) : Below w.heap.size w w.drew ∧ w.drew.cell? ⟨p1, i1, none⟩ = some v1 ∧ w.drew.cell? ⟨p2, i2, none⟩ = some v2 := ⟨(Below.refl _ _).drew, h1, h2⟩
theorem RQ.len9 {g : Nat} {st : List GN} {w : World} {S F : Nat → Prop} (h : RQ g st w S F) : ∃ na nc, w.cell? ⟨g, 0, none⟩ = some (.slice na st.length nc) := by
  obtain ⟨na, nc, NL, B, eq⟩ := h
  have h1 := B.c
  rw [(B.len eq).1] at h1
  exact ⟨na, nc, h1⟩
set_option maxHeartbeats 6400000 in
set_option maxRecDepth 100000 in
theorem rEncode_any (g : Nat) (st : List GN) (S F : Nat → Prop) (w : World) (h : RQ g st w S F) (hf : ∀ x ∈ st, x.final = finS x.rests) (hR : ∀ x ∈ st, ∀ e ∈ x.edges, 0 ≤ e.r ∧ e.r ≤ 2147483647) (hE : ∀ x ∈ st, x.edges.length ≤ 1000) (hS : (bodyB st).length ≤ 524000) (hL : st.length ≤ 60000) :
    Calls Try.prog 28 #[.pointer (some ⟨g, 0, none⟩)] w (RetB 5 w (imgB st)) := by
  have HG := Lib.hid h; have HF := Lib.hid hf; have HR := Lib.hid hR; have HE := Lib.hid hE; have HS := Lib.hid hS
  obtain ⟨na, nc, g0⟩ := h.len9
  obtain ⟨L, hLL⟩ : ∃ L, st.length = L := ⟨_, rfl⟩
  have HL := Lib.hid hLL
  rw [hLL] at hL g0
  have GC := Lib.hid (show ∀ w', Below w.heap.size w w' → w'.cell? ⟨g, 0, none⟩ = some (.slice na L nc) from fun w' hb => (hb.cell (p := ⟨g, 0, none⟩) (lt_of_cell g0)).trans g0)
  have LIT := Lib.hid (show HB9 w [73, 78, 75, 49] (some ⟨w.heap.size, 0, none⟩) 4 (w.alloc (.cells #[.int .u8 73, .int .u8 78, .int .u8 75, .int .u8 49] 5)) from ⟨holdsB_lit w [73, 78, 75, 49] 5 (0, 0) (by decide), fun e => (by cases e), below_one w _⟩)
  have CP0 := Lib.hid (rput9 (L : Int) 2 2 rfl (by omega) ([73, 78, 75, 49] ++ Cod.bytesOf L 2) LIT.out (by decide) (by rw [bits_nat9 L (by omega)]))
  obtain ⟨b0, hb0⟩ : ∃ b0, [73, 78, 75, 49] ++ Cod.bytesOf L 2 = b0 := ⟨_, rfl⟩
  have HB0 := Lib.hid hb0
  rw [hb0] at CP0
  have g1 := GC.out _ LIT.out.b
  clear h hf hE hR hS hLL hb0
  go_enter Try.func28, Try.ntmps28
  go_wp2_with fail
  refine CP0.out.mono ?_
  rintro e w1 ⟨a1, c1, rfl, hh, -⟩
  have O3 := Lib.hid hh
  clear hh CP0 LIT g1 g0
  go_wp2_with fail
  go_loopw [3, 4] (fun bv iv wr => ∃ (j : Nat) (bs : List Nat) (ba : Option Addr) (bc : Nat), j ≤ L ∧ bv = .slice ba bs.length bc ∧ iv = .int .i64 j ∧ Hid (bs ++ (st.drop j).flatMap ndB = bodyB st) ∧ Hid (HB9 w bs ba bc wr)) (fun _ iv _ => L - (intOf iv).toNat)
  case atStart => exact ⟨0, b0, a1, c1, by omega, rfl, rfl, Lib.hid (by rw [List.drop_zero, ← HB0.out, List.append_assoc]; unfold bodyB; rw [HL.out]), O3⟩
  case round =>
    clear O3
    obtain ⟨j, bs, ba, bc, hj, rfl, rfl, hB, hO⟩ := hrel
    have hbl : bs.length ≤ 524000 := by
      have h1 := congrArg List.length hB.out
      rw [List.length_append] at h1
      have := HS.out; omega
    have g0 := GC.out wr hO.out.b
    by_cases hlt : j < L
    · obtain ⟨x, hx⟩ : ∃ x, st.getD j gn0 = x := ⟨_, rfl⟩
      have hmem : x ∈ st := by
        have := HL.out
        rw [← hx, List.getD_eq_getElem?_getD, List.getElem?_eq_getElem (show j < st.length by omega)]
        exact List.getElem_mem _
      have DJ := Lib.hid (show st.drop j = x :: st.drop (j + 1) from by rw [← hx]; exact getD_edges (by rw [HL.out]; exact hlt))
      have ER := Lib.hid (HR.out x hmem)
      have e1 : hasG st (j : Int) = true := by unfold hasG; rw [HL.out]; exact decide_eq_true (by omega)
      have CF := Lib.hid (show Calls Try.prog 53 #[.pointer (some ⟨g, 0, none⟩), .int .i64 (j : Int)] wr fun e w'' => e = .returned (.bool x.final) ∧ wr = w'' from by
        have h1 := rFinal_any g st S F (j : Int) wr (HG.out.below hO.out.b) HF.out
        rw [show finG st (j : Int) = x.final by unfold finG; rw [e1, Bool.true_and, Int.toNat_natCast, hx]] at h1
        exact h1)
      obtain ⟨q, nc2, ra, rc, ea, ec, c0, -, c2, -, c4, -⟩ := HG.out.node (show j < st.length by rw [HL.out]; exact hlt)
      have hml := HE.out x hmem
      rw [hx] at c2 c4
      obtain ⟨m, hm⟩ : ∃ m, x.edges.length = m := ⟨_, rfl⟩
      have HM := Lib.hid hm
      rw [hm] at hml c2 c4
      rw [HL.out] at c0
      have NC := Lib.hid (show ∀ w', Below w.heap.size w w' → w'.cell? ⟨g, 0, none⟩ = some (.slice (some ⟨q, 0, none⟩) L nc2) ∧ w'.cell? ⟨q, j * 2 + 1, none⟩ = some (.slice ea m ec) ∧ HoldsEd w' ea m x.edges from fun w' hb => ⟨(hb.cell (p := ⟨g, 0, none⟩) (lt_of_cell c0)).trans c0, (hb.cell (p := ⟨q, j * 2 + 1, none⟩) (lt_of_cell c2)).trans c2, c4.below hb⟩)
      have n1 : (0 : Int) ≤ (j : Int) := by omega
      have n2 : (j : Int) < (L : Int) := by omega
      obtain ⟨fin, hfin⟩ : ∃ f, x.final = f := ⟨_, rfl⟩
      have HFIN := Lib.hid hfin
      rw [hfin] at CF
      obtain ⟨o1, ho1⟩ : ∃ o1, bs ++ [finN x] = o1 := ⟨_, rfl⟩
      have HO1 := Lib.hid ho1
      have o1l : o1.length = bs.length + 1 := by rw [← ho1, List.length_append]; rfl
      have o1b : o1.length ≤ 524001 := by omega
      obtain ⟨o2, ho2⟩ : ∃ o2, o1 ++ Cod.bytesOf m 2 = o2 := ⟨_, rfl⟩
      have HO2 := Lib.hid ho2
      have CP2 := Lib.hid (fun a2 c2 (w' : World) (h2 : HB9 w o1 a2 c2 w') => rput9 (m : Int) 2 2 rfl (by omega) o2 h2 (by omega) (by rw [bits_nat9 m (by omega)]; exact HO2.out))
      have g3 := (NC.out wr hO.out.b).1
      clear hx hmem e1 hm c0 c2 c4 g0 ho1 ho2 hfin o1l
      go_wp2_with fail
      with_reducible refine CF.out.mono ?_
      rintro e w4 ⟨rfl, rfl⟩
      have N0 := Lib.hid (NC.out wr hO.out.b)
      obtain ⟨fv, CP1, hfv⟩ : ∃ fv : Int, Hid (∀ w', Below wr.heap.size wr w' → Calls Try.prog 52 #[.slice ba bs.length bc, .int .i64 fv, .int .i64 1] w' fun e w'' => ∃ a2 c2, e = .returned (.slice a2 o1.length c2) ∧ HB9 w o1 a2 c2 w'' ∧ Below w'.heap.size w' w'') ∧ ((fin = true ∧ fv = 1) ∨ (fin = false ∧ fv = 0)) := by
        cases fin
        · exact ⟨0, Lib.hid (fun w' hb => rput9 0 1 1 rfl (by omega) o1 (hO.out.more hb) (by omega) (by rw [← HO1.out]; unfold finN; rw [HFIN.out]; rfl)), Or.inr ⟨rfl, rfl⟩⟩
        · exact ⟨1, Lib.hid (fun w' hb => rput9 1 1 1 rfl (by omega) o1 (hO.out.more hb) (by omega) (by rw [← HO1.out]; unfold finN; rw [HFIN.out]; rfl)), Or.inl ⟨rfl, rfl⟩⟩
      have BD := Lib.hid (show o2 ++ ((x.edges.drop 0).flatMap edB ++ (st.drop (j + 1)).flatMap ndB) = bodyB st from by
        rw [← hB.out, DJ.out, List.drop_zero, List.flatMap_cons, ← HO2.out, ← HO1.out]
        unfold ndB
        rw [HM.out]
        simp only [List.append_assoc])
      rcases hfv with ⟨rfl, rfl⟩ | ⟨rfl, rfl⟩
      all_goals
        clear g3
        go_upto_region 8 with fail
        go_region_held3 (fun w' => Below wr.heap.size wr w' ∧ w'.cell? ⟨g, 0, none⟩ = some (.slice (some ⟨q, 0, none⟩) L nc2) ∧ w'.cell? ⟨q, j * 2 + 1, none⟩ = some (.slice ea m ec))
          (first | assumption | exact bc2_start N0.out.1 N0.out.2.1 | exact bc2_carry (by assumption) (by assumption) | fail)
          (first
            | (go_at_call 52; (with_reducible refine (CP1.out _ (And.left (by assumption))).mono ?_); rintro e w' ⟨a2, c2, rfl, hB1, hb9⟩)
            | (go_at_call 52; (with_reducible refine (CP2.out _ _ _ (by assumption)).mono ?_); rintro e w' ⟨a3, c3, rfl, hB2, hb9⟩) | fail)
        all_goals
          have K8 := Lib.hid hB2
          clear CP1 N0
          go_wp2_with fail
          go_loopw [3, 6] (fun bv iv wq => ∃ (k : Nat) (cs : List Nat) (ba : Option Addr) (bc : Nat), k ≤ m ∧ bv = .slice ba cs.length bc ∧ iv = .int .i64 k ∧ Hid (cs ++ ((x.edges.drop k).flatMap edB ++ (st.drop (j + 1)).flatMap ndB) = bodyB st) ∧ Hid (HB9 w cs ba bc wq)) (fun _ iv _ => m - (intOf iv).toNat)
          case atStart => exact ⟨0, o2, _, _, by omega, rfl, rfl, BD, K8⟩
          case round =>
            clear K8 BD hB2 CP2
            obtain ⟨k, cs, ba, bc, hk, rfl, rfl, hB, hK⟩ := hrel
            rename World => wq
            have hcl : cs.length ≤ 524000 := by
              have h1 := congrArg List.length hB.out
              rw [List.length_append] at h1
              have := HS.out; omega
            obtain ⟨g5, g6, he⟩ := NC.out wq hK.out.b
            by_cases hkm : k < m
            · obtain ⟨eb, eo, rfl, hcc⟩ := he.at (by omega)
              obtain ⟨y0, y1⟩ := hcc k hkm
              obtain ⟨y, hy⟩ : ∃ y, x.edges.getD k ed0 = y := ⟨_, rfl⟩
              rw [hy] at y0 y1
              have DK := Lib.hid (show x.edges.drop k = y :: x.edges.drop (k + 1) from by rw [← hy]; exact drop_ed9 (show k < x.edges.length by rw [HM.out]; exact hkm))
              have hkx : k < x.edges.length := by rw [HM.out]; exact hkm
              obtain ⟨yr, yr2⟩ := ER.out y (by rw [← hy, List.getD_eq_getElem?_getD, List.getElem?_eq_getElem hkx]; exact List.getElem_mem _)
              clear hkx
              have wy : IntKind.i64.wrap y.r = y.r := by rw [IntKind.wrap_i64]; omega
              have n3 : (0 : Int) ≤ (k : Int) := by omega
              have n4 : (k : Int) < (m : Int) := by omega
              obtain ⟨o3, ho3⟩ : ∃ o3, cs ++ Cod.bytesOf (bitsV y.r) 4 = o3 := ⟨_, rfl⟩
              obtain ⟨o4, ho4⟩ : ∃ o4, o3 ++ Cod.bytesOf (bitsV y.dst) 2 = o4 := ⟨_, rfl⟩
              have o3l : o3.length ≤ 524004 := by rw [← ho3, List.length_append, Cod.bytesOf_length]; omega
              have BD := Lib.hid (show o4 ++ ((x.edges.drop (k + 1)).flatMap edB ++ (st.drop (j + 1)).flatMap ndB) = bodyB st from by
                rw [← hB.out, DK.out, List.flatMap_cons, ← ho4, ← ho3]
                unfold edB
                simp only [List.append_assoc])
              have K5 := Lib.hid (hK.out.more (below_one wq (.cells #[.int .i32 y.r, .int .i64 y.dst] 67)))
              have X5 := Lib.hid (show (wq.alloc (.cells #[.int .i32 y.r, .int .i64 y.dst] 67)).cell? ⟨wq.heap.size, 0, none⟩ = some (.int .i32 y.r) ∧ (wq.alloc (.cells #[.int .i32 y.r, .int .i64 y.dst] 67)).cell? ⟨wq.heap.size, 1, none⟩ = some (.int .i64 y.dst) from ⟨by rw [cell_alloc rfl]; rfl, by rw [cell_alloc rfl]; rfl⟩)
              have CP3 := Lib.hid (fun w' (hb : Below (wq.alloc (.cells #[.int .i32 y.r, .int .i64 y.dst] 67)).heap.size (wq.alloc (.cells #[.int .i32 y.r, .int .i64 y.dst] 67)) w') => rput9 y.r 4 4 rfl (by omega) o3 (K5.out.more hb) (by omega) ho3)
              have CP4 := Lib.hid (fun a2 c2 (w' : World) (h2 : HB9 w o3 a2 c2 w') => rput9 y.dst 2 2 rfl (by omega) o4 h2 (by omega) ho4)
              clear hcc hy he ho3 ho4
              go_upto_region 13 with fail
              generalize wq.alloc (.cells #[.int .i32 y.r, .int .i64 y.dst] 67) = w5 at *
              generalize wq.heap.size = p5 at *
              go_region_held3 (fun w' => Below w5.heap.size w5 w' ∧ w'.cell? ⟨p5, 0, none⟩ = some (.int .i32 y.r) ∧ w'.cell? ⟨p5, 1, none⟩ = some (.int .i64 y.dst))
                (first | assumption | exact bc2_start X5.out.1 X5.out.2 | exact bc2_carry (by assumption) (by assumption) | fail)
                (first
                  | (go_at_call 52; (with_reducible refine (CP3.out _ (And.left (by assumption))).mono ?_); rintro e w' ⟨a2, c2, rfl, hB1, hb9⟩)
                  | (go_at_call 52; (with_reducible refine (CP4.out _ _ _ (by assumption)).mono ?_); rintro e w' ⟨a3, c3, rfl, hB2, hb9⟩) | fail)
              all_goals
                have K9 := Lib.hid hB2
                clear CP3 CP4 X5 K5
                go_wp2_with fail
                go_roundw
                case rel => exact ⟨k + 1, o4, _, _, by omega, rfl, by go_num, BD, K9⟩
                case measure => simp [intOf] <;> omega
            · obtain rfl : k = m := by omega
              have BE := Lib.hid (show cs ++ (st.drop (j + 1)).flatMap ndB = bodyB st from by
                rw [← hB.out, show x.edges.drop k = [] from List.drop_of_length_le (by rw [HM.out]; exact Nat.le_refl _)]; rfl)
              clear hB he
              go_wp2_with fail
              go_roundw
              case rel => exact ⟨j + 1, cs, ba, bc, by omega, rfl, by go_num, BE, hK⟩
              case measure => simp [intOf] <;> omega
    · obtain rfl : j = L := by omega
      have BE := Lib.hid (show bs = bodyB st from by
        have h1 := hB.out
        rw [List.drop_of_length_le (by rw [HL.out]; omega)] at h1
        simpa using h1)
      have CS := Lib.hid (rSeal_any ba bs.length bc bs wr hO.out.h hO.out.n (by omega))
      have IM := Lib.hid (show sealB bs = imgB st from by rw [BE.out]; rfl)
      have WB := Lib.hid hO.out.b
      clear hO hB BE
      go_wp2_with fail
      with_reducible refine CS.out.mono ?_
      rintro e w5 ⟨a5, c5, rfl, h1, h2, h3⟩
      have F := Lib.hid (show RetB 5 w (imgB st) (.returned (.slice a5 (sealB bs).length c5)) w5 from by
        rw [IM.out] at h1 h3 ⊢
        exact ⟨a5, c5, rfl, base_less9 h1 WB.out.size, WB.out.trans (h2.mono WB.out.size), h3⟩)
      clear h1 h2 h3 CS
      go_wp2_with fail
      go_ret
      exact F.out
end Go.Proofs.Ytlcmndbnknifhaa
/- pack: the document's Of -/
namespace Go.Proofs.Ytlcmndbnknifhaa
open Go.RowKit
set_option linter.unusedVariables false
set_option maxRecDepth 20000
theorem rOf_good (a : Option Addr) (n cap : Nat) (ts : List Tx) (w : World) (hh : HoldsT w a n ts) (hc : n ≤ cap) (hn : n ≤ 9223372036854775807) (hs : ∀ t ∈ ts, t.size ≤ 100) (hv : goodV ts = 0) :
    Calls Try.prog 11 #[.slice a n cap] w (RetE w (imgB (grS ts))) := by
  have CB := Lib.hid (rbuild_good (w0 := w) a n cap ts (grS ts) w (Below.refl _ _) hh hc hn hs hv rfl)
  have CE := Lib.hid (fun g S F (w' : World) (h : RQ g (grS ts) w' S F) => (show Calls Try.prog 28 #[.pointer (some ⟨g, 0, none⟩)] w' (RetB 5 w' (imgB (grS ts))) from by
    have G := grS_ok hv hs
    have hl := grS_few hv hs
    exact rEncode_any g (grS ts) S F w' h (fun x hx => (G.nodes x hx).fin) G.runes (fun x hx => by have := G.few x hx; omega) (bodyB_len G.few (by omega)) (by omega)))
  obtain ⟨o, ho⟩ : ∃ o, imgB (grS ts) = o := ⟨_, rfl⟩
  rw [ho] at CE ⊢
  clear hh hs hv ho
  go_enter Try.func11, Try.ntmps11
  go_wp2_with fail
  with_reducible refine CB.out.mono ?_
  rintro e w1 ⟨g, S, F, rfl, hC, hb⟩
  have C1 := Lib.hid (CE.out g S F w1 hC.1)
  have B1 := Lib.hid hb
  clear hC hb CE CB
  go_wp2_with fail
  with_reducible refine C1.out.mono ?_
  rintro e w2 ⟨a2, c2, rfl, h1, h2, h3⟩
  have F := Lib.hid (show RetE w o (.returned (.tuple #[.slice a2 o.length c2, .int .i64 0])) w2 from
    ⟨a2, c2, rfl, base_less9 h1 B1.out.size, B1.out.trans (h2.mono B1.out.size), h3⟩)
  clear h1 h2 h3 C1
  go_wp2_with fail
  go_ret2
  exact F.out
theorem rOf_bad (a : Option Addr) (n cap : Nat) (ts : List Tx) (v : Int) (w : World) (hh : HoldsT w a n ts) (hn : n ≤ 9223372036854775807) (hs : ∀ t ∈ ts, t.size ≤ 1048576) (hv : goodV ts = v) (h0 : v ≠ 0) :
    Calls Try.prog 11 #[.slice a n cap] w fun e w' => e = .returned (.tuple #[.slice none 0 0, .int .i64 v]) ∧ Below w.heap.size w w' := by
  have CB := Lib.hid (rbuild_bad a n cap ts v w hh hn hs hv h0)
  have e1 : (v != 0) = true := by simpa using h0
  clear hh hs hv h0
  go_enter Try.func11, Try.ntmps11
  go_wp2_with fail
  with_reducible refine CB.out.mono ?_
  rintro e w1 ⟨rfl, hb⟩
  have B1 := Lib.hid hb
  clear hb CB
  go_wp2_with fail
  go_ret2
  exact ⟨rfl, B1.out⟩
end Go.Proofs.Ytlcmndbnknifhaa
/- what was answered is written over, and beyond (OverBytes): nothing but its own block is written -/
namespace Go.Proofs.Ytlcmndbnknifhaa
open Go.RowKit
set_option linter.unusedVariables false
set_option maxRecDepth 20000
theorem ovgBytes_info : (Try.prog.info? 5).map (fun i => (i.zero, i.size, i.bytes)) = some (some (.int .u8 0), 1, 1) := by kernel_rfl
set_option maxHeartbeats 400000 in
/-- Written over is a slice of the call's own (its blocks lie from B on): below B nothing turns, and nothing but the slice's block. -/
theorem ovgBytes_any (B : Nat) (a : Option Addr) (n cap : Nat) (xs : List Value) (w : World) (h : w.ownsRow B 5 1 (.slice a n cap) n xs) (hB : B ≤ w.heap.size) (hn : n ≤ 1048576) :
    Calls Try.prog 16 #[.slice a n cap] w fun e w' => e = .returned (.tuple #[]) ∧ Below B w w' ∧ w.grownBy w' (Value.slice a n cap).ownBlock := by
  obtain ⟨i0, hi, hz0, hz1, hz2⟩ := info_parts ovgBytes_info
  have H := Lib.hid h
  clear h
  go_enter Try.func16, Try.ntmps16
  go_wp2_with fail
  go_loopw [2] (fun i wr => ∃ (k : Nat) (ys : List Value), k ≤ n ∧ i = .int .i64 k ∧ Hid (wr.ownsRow B 5 1 (.slice a n cap) n ys) ∧ Hid (Below B w wr) ∧ Hid (w.grownBy wr (Value.slice a n cap).ownBlock)) (fun i _ => n - (intOf i).toNat)
  case atStart => exact ⟨0, xs, by omega, rfl, H, Below.refl _ _, Lib.hid ⟨rfl, rfl, rfl, Nat.le_refl _, fun _ _ _ => rfl⟩⟩
  case round =>
    obtain ⟨k, ys, hk, rfl, hO, hBw, hGr⟩ := hrel
    by_cases hlt : k < n
    · obtain ⟨g, rfl⟩ : ∃ g, a = some ⟨g, 0, none⟩ := by
        obtain ⟨g, cap', hv⟩ := Joins.ownsRow_form hO.out (by omega)
        simp only [Value.slice.injEq] at hv
        exact ⟨g, hv.1⟩
      have hc := hO.out.cellAt k (by omega)
      have hyl : k < ys.length := by have := hO.out.1; omega
      rw [List.getElem?_eq_getElem hyl] at hc
      obtain ⟨y, hy⟩ : ∃ y, ys[k] = y := ⟨_, rfl⟩
      rw [hy] at hc
      clear hy hyl
      have hf := hO.out.frozenAt k
      have HG2 := Lib.hid (fun v => (⟨hGr.out.os, hGr.out.tape, hGr.out.output, by have := hGr.out.size; simpa using this, fun b hb hne => (Below.heap_setCell wr ⟨g, k, none⟩ v b (fun e => hne (by show some b = some g; rw [e]))).trans (hGr.out.block b hb hne)⟩ : w.grownBy (wr.setCell ⟨g, k, none⟩ v) (Value.slice (some ⟨g, 0, none⟩) n cap).ownBlock))
      go_wp2
      go_roundw
      case rel => exact ⟨k + 1, _, by omega, by go_num, Lib.hid (hO.out.stored k _).1, Lib.hid (hBw.out.setCell (p := ⟨g, k, none⟩) (hO.out.lt g rfl).1 _), Lib.hid (HG2.out _)⟩
      case measure => simp [intOf]; omega
    · have hs := hBw.out.size
      go_wp2_with (at_builtin; refine wpList_append_own _ rfl (.tmp 12) (.tmp 13) 25 rfl B 5 i0 (.int .u8 0) 1 1 Try.underlying25 hi hz0 hz1 hz2 rfl (by decide) _ n _ rfl (hO.out.alloc _) _ 1 1 _ rfl rfl (one_new _ _ _ _ _ rfl) (one_int _ _) (by unfold maxLen; omega) (by omega) (by simp; omega) ?_; intro v3 w3 hown3 hg3 hnil3)
      go_end0
      have hsz := hGr.out.size
      refine ⟨rfl, hBw.out.trans (((Below.refl _ _).alloc (by omega) _).grown hg3 (by simp; omega) fun k hk => (hO.out.lt k hk).1), ⟨hg3.os.trans hGr.out.os, hg3.tape.trans hGr.out.tape, hg3.output.trans hGr.out.output, ?_, fun b hb hne => ?_⟩⟩
      · have := hg3.size; simp at this; omega
      · rw [hg3.block b (by simp; omega) hne, Below.heap_alloc _ _ _ (by omega)]
        exact hGr.out.block b hb hne
end Go.Proofs.Ytlcmndbnknifhaa
/- pack: images are the document's -/
namespace Go.Proofs.Ytlcmndbnknifhaa
open Go.RowKit
set_option linter.unusedVariables false
set_option maxRecDepth 20000
theorem rOf_c (a : Option Addr) (n cap : Nat) (ts : List Tx) (I : List Nat) (m : Nat) (w : World) (hh : HoldsT w a n ts) (hc : n ≤ cap) (hn : n ≤ 9223372036854775807) (hv : goodV ts = 0) (hI : imgB (grS ts) = I) (hm : I.length = m) :
    Calls Try.prog 11 #[.slice a n cap] w fun e w' => ∃ a' c', e = .returned (.tuple #[.slice a' m c', .int .i64 0]) ∧ w'.ownsRow w.heap.size 5 1 (.slice a' m c') m (bytesV I) ∧ HoldsB w' a' m I ∧ m ≤ c' ∧ Below w.heap.size w w' := by
  subst hI hm
  refine (rOf_good a n cap ts w hh hc hn (fun t ht => by have := good_sizes hv t ht; omega) hv).mono ?_
  rintro e w' ⟨a2, c2, rfl, h1, h2, -⟩
  exact ⟨a2, c2, rfl, h1, holdsB_of_values (owns_holds h1) (imgB_lt _), (owns_none h1).2, h2⟩
theorem num9_any (v : Int) (w : World) : Calls Try.prog 13 #[.int .i64 v] w fun e w' => e = .returned (.int .i64 v) ∧ w = w' := by
  go_enter Try.func13, Try.ntmps13
  go_wp2_with fail
  go_ret
  exact ⟨rfl, rfl⟩
/-- bytes of another block stay when a row is written over -/
theorem holdsB_far9 {w w' : World} {a a1 : Option Addr} {n n1 c1 m B : Nat} {I : List Nat} {e : TypeId} {xs : List Value} (h : HoldsB w a n I) (hb : ∀ q o, a = some ⟨q, o, none⟩ → B ≤ q) (hown : w.ownsRow m e 1 (.slice a1 n1 c1) n1 xs) (hlt : ∀ q, a1 = some ⟨q, 0, none⟩ → q < B) (hg : w.grownBy w' (Value.slice a1 n1 c1).ownBlock) : HoldsB w' a n I :=
  holdsB_turn h (turn_grown9 hg) (fun q o e1 e2 => by
    have h1 := own_at9 hown e2.symm
    have := hb q o e1
    have := hlt q h1
    omega)
set_option maxHeartbeats 3200000 in
theorem packLays_any (a : Option Addr) (n cap : Nat) (ts : List Tx) (w : World) (hh : HoldsT w a n ts) (hc : n ≤ cap) (hn : n ≤ 9223372036854775807) (hsz : ∀ t ∈ ts, t.size ≤ 9223372036854775807) :
    Calls Try.prog 3 #[.slice a n cap] w fun e w' => e = .returned (.bool true) ∧ Below w.heap.size w w' := by
  have CG := Lib.hid (great_any a n cap ts w hh hn hsz)
  have HH := Lib.hid hh
  have HL := Lib.hid hh.len
  by_cases q0 : greatB ts = true
  · rw [q0] at CG
    go_enter Try.func3, Try.ntmps3
    go_wp2_with fail
    refine CG.out.mono ?_
    rintro e w1 ⟨rfl, hb⟩
    have B1 := Lib.hid hb
    clear hb
    go_wp2_with fail
    refine (awake9_any _).mono ?_
    rintro e w' ⟨rfl, hb⟩
    have B2 := Lib.hid (B1.out.trans (hb.mono B1.out.size))
    clear hb
    go_wp2_with fail
    go_ret
    exact ⟨rfl, B2.out⟩
  have q0' : greatB ts = false := by simpa using q0
  rw [q0'] at CG
  obtain ⟨l80, hsm⟩ := great_no_iff.1 q0'
  have hsm : ∀ t ∈ ts, t.size ≤ 100 := hsm
  by_cases q2 : goodV ts = 0
  · obtain ⟨I, hI⟩ : ∃ I, imgB (grS ts) = I := ⟨_, rfl⟩
    obtain ⟨m, hm⟩ : ∃ m, I.length = m := ⟨_, rfl⟩
    have hl := imgB_len q2
    rw [hI, hm] at hl
    obtain ⟨m10, m52⟩ := hl
    obtain ⟨st, hst⟩ : ∃ st, grS ts = st := ⟨_, rfl⟩
    have CO := Lib.hid (fun (w1 : World) (hb : Below w.heap.size w w1) => pOf_c a n cap ts I m (w0 := w) w1 hb (HH.out.below hb) hc hn q2 hI hm)
    have CR := Lib.hid (fun (w1 : World) (hb : Below w.heap.size w w1) => rOf_c a n cap ts I m w1 (HH.out.below hb) hc hn q2 hI hm)
    have CB := Lib.hid (fun (w1 : World) (hb : Below w.heap.size w w1) => build_c (w0 := w) a n cap ts st w1 hb (HH.out.below hb) hc hn hsm q2 hst)
    have CE := Lib.hid (fun g S (w1 : World) (c : CtxG w w1 g st S) => encode_c ts st I m hst w1 c q2 (hst ▸ hI) hm)
    have nl : ts.length = n := HL.out
    clear hI hm hst q2 hsm q0 q0' nl hsz hh
    go_enter Try.func3, Try.ntmps3
    go_wp2_with fail
    with_reducible refine CG.out.mono ?_
    rintro e w1 ⟨rfl, hb⟩
    have CO1 := Lib.hid (CO.out w1 hb)
    clear hb CG CO
    go_wp2_with fail
    with_reducible refine CO1.out.mono ?_
    rintro e w2 ⟨a2, c2, rfl, o2, h2, hc2, hb, -⟩
    have O2 := Lib.hid o2
    have H2 := Lib.hid h2
    have B2 := Lib.hid hb
    have CR1 := Lib.hid (CR.out w2 hb)
    have A2 := Lib.hid (show ∀ q, a2 = some ⟨q, 0, none⟩ → q < w2.heap.size from fun q e => (o2.lt q (by rw [e]; rfl)).2)
    clear h2 hc2 hb CO1 CR o2
    go_wp2_with fail
    with_reducible refine CR1.out.mono ?_
    rintro e w3 ⟨a3, c3, rfl, o3, h3, hc3, hb⟩
    have O3 := Lib.hid (owns_below O2.out hb)
    have A3 := Lib.hid (show ∀ q o, a3 = some ⟨q, o, none⟩ → w2.heap.size ≤ q from fun q o e => by
      obtain ⟨q3, cp3, e3⟩ := Joins.ownsRow_form o3 (by omega)
      simp only [Value.slice.injEq] at e3
      rw [e3.1] at e; injection e with e; injection e with e e'; subst e
      exact (o3.lt _ (by rw [e3.1]; rfl)).1)
    have B3 := Lib.hid (B2.out.trans (hb.mono B2.out.size))
    have S3 := hb.size
    have H3 := Lib.hid h3
    have CS := Lib.hid (sameB_yes9 a2 a3 m c2 c3 I w3 (H2.out.below hb) h3 (by omega))
    clear h3 hc3 hb CR1 o3 O2 B2 H2
    go_wp2_with fail
    with_reducible refine CS.out.mono ?_
    rintro e w4 ⟨rfl, hb⟩
    have O4 := Lib.hid (owns_below O3.out hb)
    have H4 := Lib.hid (H3.out.below hb)
    have B4 := Lib.hid (B3.out.trans (hb.mono B3.out.size))
    have S4 := hb.size
    have CB1 := Lib.hid (CB.out w4 B4.out)
    clear hb CS CB B3 O3 H3
    go_wp2_with fail
    refine (num9_any _ _).mono ?_
    rintro e w5 ⟨rfl, rfl⟩
    go_wp2_with fail
    with_reducible refine CB1.out.mono ?_
    rintro e w5 ⟨g, S, rfl, C, hb⟩
    have CE1 := Lib.hid (CE.out g S w5 C)
    have O5 := Lib.hid (owns_below O4.out hb)
    have H5 := Lib.hid (H4.out.below hb)
    have B5 := Lib.hid C.b
    have S5 := hb.size
    clear hb C CE CB1 O4 H4 B4
    go_wp2_with fail
    with_reducible refine CE1.out.mono ?_
    rintro e w6 ⟨a6, c6, rfl, h6, hc6, hb, o6⟩
    have A6 := Lib.hid (show ∀ q o, a6 = some ⟨q, o, none⟩ → w2.heap.size ≤ q from fun q o e => by
      obtain ⟨q3, cp3, e3⟩ := Joins.ownsRow_form o6 (by omega)
      simp only [Value.slice.injEq] at e3
      rw [e3.1] at e; injection e with e; injection e with e e'; subst e
      have h9 : w5.heap.size ≤ q3 := (o6.lt _ (by rw [e3.1]; rfl)).1
      omega)
    have B6 := Lib.hid (B5.out.trans (hb.mono B5.out.size))
    have O6 := Lib.hid (owns_below O5.out hb)
    have H6 := Lib.hid (H5.out.below hb)
    have I6 := Lib.hid h6
    have CV := Lib.hid (ovgBytes_any w.heap.size a2 m c2 _ w6 O6.out B6.out.size (by omega))
    clear h6 hb CE1 O5 H5 B5 hc6 o6
    go_wp2_with fail
    with_reducible refine CV.out.mono ?_
    rintro e w7 ⟨rfl, hb, hg⟩
    have H7 := Lib.hid (holdsB_far9 H6.out A3.out O6.out A2.out hg)
    have I7 := Lib.hid (holdsB_far9 I6.out A6.out O6.out A2.out hg)
    have B7 := Lib.hid (B6.out.trans hb)
    have CS2 := Lib.hid (sameB_yes9 a6 a3 m c6 c3 I w7 I7.out H7.out (by omega))
    clear hb hg CV O6 H6 I6 B6 H7 I7
    go_wp2_with fail
    refine (encode_nil _).mono ?_
    rintro e w8 ⟨rfl, rfl⟩
    go_wp2_with fail
    with_reducible refine CS2.out.mono ?_
    rintro e w8 ⟨rfl, hb⟩
    have B8 := Lib.hid (B7.out.trans (hb.mono B7.out.size))
    clear hb CS2 B7
    go_wp2_with fail
    refine (awake9_any _).mono ?_
    rintro e w' ⟨rfl, hb⟩
    have B9 := Lib.hid (B8.out.trans (hb.mono B8.out.size))
    clear hb
    go_wp2_with fail
    go_ret
    exact ⟨rfl, B9.out⟩
  · obtain ⟨v, hv⟩ : ∃ v, goodV ts = v := ⟨_, rfl⟩
    have hv0 : v ≠ 0 := by rw [← hv]; exact q2
    have CB := Lib.hid (fun (w1 : World) (hb : Below w.heap.size w w1) => pOf_bad a n cap ts v w1 (HH.out.below hb) hn hsz hv hv0)
    have CR := Lib.hid (fun (w1 : World) (hb : Below w.heap.size w w1) => rOf_bad a n cap ts v w1 (HH.out.below hb) hn (fun t ht => by have := hsm t ht; omega) hv hv0)
    have hb1 : (v != 0) = true := by simpa using hv0
    clear hv q2
    go_enter Try.func3, Try.ntmps3
    go_wp2_with fail
    with_reducible refine CG.out.mono ?_
    rintro e w1 ⟨rfl, hb⟩
    have B1 := Lib.hid hb
    have CB1 := Lib.hid (CB.out w1 hb)
    clear hb CG CB
    go_wp2_with fail
    with_reducible refine CB1.out.mono ?_
    rintro e w2 ⟨rfl, hb⟩
    have B2 := Lib.hid (B1.out.trans (hb.mono B1.out.size))
    have CR1 := Lib.hid (CR.out w2 B2.out)
    clear hb B1 CB1 CR
    go_wp2_with fail
    with_reducible refine CR1.out.mono ?_
    rintro e w3 ⟨rfl, hb⟩
    have B3 := Lib.hid (B2.out.trans (hb.mono B2.out.size))
    clear hb B2 CR1
    go_wp2_with fail
    refine (sameB_yes9 none none 0 0 0 [] w3 (holdsB_nil _ _) (holdsB_nil _ _) (by omega)).mono ?_
    rintro e w4 ⟨rfl, hb⟩
    have B4 := Lib.hid (B3.out.trans (hb.mono B3.out.size))
    clear hb B3
    go_wp2_with fail
    refine (num9_any _ _).mono ?_
    rintro e w5 ⟨rfl, rfl⟩
    go_wp2_with fail
    refine (awake9_any _).mono ?_
    rintro e w' ⟨rfl, hb⟩
    have B5 := Lib.hid (B4.out.trans (hb.mono B4.out.size))
    clear hb
    go_wp2_with fail
    go_ret
    exact ⟨rfl, B5.out⟩
open Go.ChangeShapes Go.WideShapes Go.ChangeAt in
theorem packLays_walk {H : Type} {enc : TypeId × Value → H} (W : World) (base : Nat) (v0 : Value) (d0 : DataW H) (p0 : List MemPlace)
    (h0 : DataW.Trod enc Try.prog W 0 (fun _ => true) true 22 v0 d0 p0)
    (o0 : Value.okWide Try.prog W .any base 22 v0) :
    Calls Try.prog 3 #[v0] W fun e w' => e = .returned (.bool true) ∧ RowKit.Below W.heap.size W w' := by
  obtain ⟨a0, n0, c0, t0, rfl, x0, y0, z0, b0, s0⟩ := open_texts_arg o0 h0
  exact packLays_any a0 n0 c0 t0 W x0 z0 b0 s0
end Go.Proofs.Ytlcmndbnknifhaa
/- pack: the document's Decode -/
namespace Go.Proofs.Ytlcmndbnknifhaa
open Go.RowKit
set_option linter.unusedVariables false
set_option maxRecDepth 20000
theorem rqNumM (s : Nat) (si : Int) (hsi : si = (s : Int)) (h1 : 1 ≤ s) (h4 : s ≤ 4) (v at2 : Nat) (bad2 : Bool) {w : World} {r : Nat} {a : Option Addr} {n cap : Nat} {bs : List Nat} {at_ : Nat} {bad : Bool} (h : RdM r a n cap bs at_ bad w) (hn : n ≤ 1048576) (hat : at_ ≤ n) (hv : numQ bs n at_ s = v) (h2 : atQ n at_ s = at2) (hb : (bad || !decide (at_ + s ≤ n)) = bad2) :
    Calls Try.prog 41 #[.pointer (some ⟨r, 0, none⟩), .int .i64 si] w fun e w' => e = .returned (.int .i64 (v : Int)) ∧ RdM r a n cap bs at2 bad2 w' ∧ Turn (fun k => k = r) w w' := by
  subst hsi hv h2 hb
  exact rqNum_any r a n cap bs at_ bad s w h hn hat h1 h4
set_option maxHeartbeats 12800000 in
set_option maxRecDepth 100000 in
theorem rdecode_any (q : Nat) (o n cap : Nat) (bs : List Nat) (w : World) (h : HoldsB w (some ⟨q, o, none⟩) n bs) (hq : q < w.heap.size) (hc : n ≤ cap) (hn : n ≤ 1048576) (ho : openB bs = true) (h4 : 4 ≤ n) :
    Calls Try.prog 19 #[.slice (some ⟨q, o, none⟩) n cap] w (RdcP w bs) := by
  obtain ⟨i0, hi, hz0, hz1, hz2⟩ := info_parts qpair_info
  obtain ⟨j0, hj, hy0, hy1, hy2⟩ := info_parts qpart_info
  have hl := h.len
  have COP := Lib.hid (rOpened_any (some ⟨q, o, none⟩) n cap bs w h hn hc)
  rw [ho] at COP
  have HB := Lib.hid h.2
  have HL := Lib.hid hl
  have HO := Lib.hid ho
  have HC := Lib.hid h
  have HQ := Lib.hid (show ∀ q2 o2, (some ⟨q, o, none⟩ : Option Addr) = some ⟨q2, o2, none⟩ → q2 < w.heap.size from fun q2 o2 e => by injection e with e; injection e with e1 e2; omega)
  have B1 := Lib.hid (below_one w (.cells #[.slice (some ⟨q, o, none⟩) n cap, .int .i64 4, .bool false] 77))
  have M1 := Lib.hid (show RdM w.heap.size (some ⟨q, o, none⟩) n cap bs 4 false (w.alloc (.cells #[.slice (some ⟨q, o, none⟩) n cap, .int .i64 4, .bool false] 77)) from
    ⟨by rw [cell_alloc rfl]; rfl, by rw [cell_alloc rfl]; rfl, by rw [cell_alloc rfl]; rfl, fun i => frozen_alloc rfl, h.below (below_one _ _), fun q2 o2 e => by injection e with e; injection e with e1 e2; omega⟩)
  obtain ⟨cnt, hcnt⟩ : ∃ c, numQ bs n 4 2 = c := ⟨_, rfl⟩
  obtain ⟨a0, ha0⟩ : ∃ c, atQ n 4 2 = c := ⟨_, rfl⟩
  obtain ⟨b0, hb0⟩ : ∃ c, (false || !decide (4 + 2 ≤ n)) = c := ⟨_, rfl⟩
  have CN := Lib.hid (rqNumM 2 2 rfl (by omega) (by omega) cnt a0 b0 M1.out hn h4 hcnt ha0 hb0)
  have la0 : a0 ≤ n := ha0 ▸ atQ_le h4
  have cb : cnt < 65536 := by rw [← hcnt]; exact numQ_lt bs n 4 2 h.2 hl
  have B00 := Lib.hid (show (b0 = false → a0 = 6 ∧ decide (4 + 2 ≤ bs.length) = true) ∧ (b0 = true → cnt = 0 ∧ rdcS bs = none) from by
    refine ⟨fun hb => ?_, fun hb => ?_⟩
    · rw [hb] at hb0
      have h6 : 4 + 2 ≤ n := by simpa using hb0
      exact ⟨by rw [← ha0]; unfold atQ; rw [if_pos h6], decide_eq_true (by omega)⟩
    · rw [hb] at hb0
      have h6 : ¬ (4 + 2 ≤ n) := by simpa using hb0
      exact ⟨by rw [← hcnt]; unfold numQ; rw [if_neg h6], beh_none (Or.inl (decide_eq_false (by omega)))⟩)
  have HCNT := Lib.hid hcnt
  clear h hl ho hq hcnt ha0 hb0
  go_enter Try.func19, Try.ntmps19
  go_wp2_with fail
  with_reducible refine COP.out.mono ?_
  rintro e w1 ⟨rfl, rfl⟩
  go_wp2_with fail
  with_reducible refine CN.out.mono ?_
  rintro e w2 ⟨rfl, m2, t2⟩
  have Q2 := Lib.hid (show QL9 w w.heap.size (some ⟨q, o, none⟩) n cap bs a0 b0 [] none 0 w2 from
    ⟨m2, ⟨World.ownsRow_nil _ _ _ _, fun x hx => (by cases hx), fun x hx => (by cases hx)⟩, fun k e => (by cases e), fun x hx => (by cases hx), Nat.le_refl _, B1.out.trans (t2.below (fun k hk => by rw [hk]; exact Nat.le_refl _) B1.out.size)⟩)
  clear m2 t2 CN M1 COP B1
  obtain ⟨r, hr⟩ : ∃ r, w.heap.size = r := ⟨_, rfl⟩
  have HR := Lib.hid hr
  rw [hr] at Q2
  simp only [hr]
  clear hr
  go_wp2_with fail
  go_loopw [6, 7] (fun pv iv wr => ∃ (i : Nat) (PL : List PM) (pa : Option Addr) (pc at3 : Nat) (bad3 : Bool), i ≤ cnt ∧ pv = .slice pa PL.length pc ∧ iv = .int .i64 i ∧ at3 ≤ n ∧ PL.length ≤ i ∧ Hid ((bad3 = false → b0 = false ∧ (rdL bs n (cnt - i) at3).map (fun x => (PL.map pmP ++ x.1, x.2)) = rdL bs n cnt 6) ∧ (bad3 = true → rdcS bs = none)) ∧ Hid (QL9 w r (some ⟨q, o, none⟩) n cap bs at3 bad3 PL pa pc wr)) (fun _ iv _ => cnt - (intOf iv).toNat)
  case atStart => exact ⟨0, [], none, 0, a0, b0, by omega, rfl, rfl, la0, by simp, Lib.hid ⟨fun hb => ⟨hb, by rw [Nat.sub_zero, (B00.out.1 hb).1]; cases rdL bs n cnt 6 <;> simp⟩, fun hb => (B00.out.2 hb).2⟩, Q2⟩
  case round =>
    clear Q2
    obtain ⟨wo, rfl⟩ : ∃ wo : World, wo = wr := ⟨_, rfl⟩
    obtain ⟨i, PL, pa, pc, at3, bad3, hi', rfl, rfl, l3, hpl, hE, hL⟩ := hrel
    have k2 := hL.out.rd.c2
    by_cases hlt : i < cnt
    · have dlt : decide ((i : Int) < (cnt : Int)) = true := decide_eq_true (by omega)
      have dltn : decide (i < cnt) = true := decide_eq_true hlt
      cases bad3 with
      | true =>
        have RN := Lib.hid (rdcP_bad hL.out.b HO.out (hE.out.2 rfl))
        go_wp2_with fail
        go_ret2
        exact RN.out
      | false =>
        have HNL := HL.out
        obtain ⟨v1, hv1⟩ : ∃ v, numQ bs n at3 1 = v := ⟨_, rfl⟩
        obtain ⟨a1, ha1⟩ : ∃ v, atQ n at3 1 = v := ⟨_, rfl⟩
        obtain ⟨b1, hb1⟩ : ∃ v, (false || !decide (at3 + 1 ≤ n)) = v := ⟨_, rfl⟩
        obtain ⟨v2, hv2⟩ : ∃ v, numQ bs n a1 2 = v := ⟨_, rfl⟩
        obtain ⟨a2, ha2⟩ : ∃ v, atQ n a1 2 = v := ⟨_, rfl⟩
        obtain ⟨b2, hb2⟩ : ∃ v, (b1 || !decide (a1 + 2 ≤ n)) = v := ⟨_, rfl⟩
        have la1 : a1 ≤ n := ha1 ▸ atQ_le l3
        have la2 : a2 ≤ n := ha2 ▸ atQ_le la1
        have v2b : v2 < 65536 := by rw [← hv2]; exact numQ_lt bs n a1 2 HB.out HL.out
        obtain ⟨rn1, rn2⟩ := rdN_q bs n at3 v1 a1 v2 a2 b1 b2 l3 hv1 ha1 hb1 hv2 ha2 hb2
        obtain ⟨X, hX⟩ : ∃ X, rdE bs n v2 a2 b2 = X := ⟨_, rfl⟩
        rw [hX] at rn1
        have XB := Lib.hid (show b2 = true → X.2.2 = true from fun hb => by
          rw [← hX, rn2 hb, hb]; rfl)
        have HX := Lib.hid hX
        have EX := Lib.hid (show rdL bs n (cnt - i) at3 = if X.2.2 then none else (rdL bs n (cnt - (i + 1)) X.2.1).map (fun r => ((⟨decide (v1 = 1), X.1⟩ : PN) :: r.1, r.2)) from by
          rw [show cnt - i = (cnt - (i + 1)) + 1 by omega]
          simp only [rdL, rn1])
        obtain ⟨fin, hfin⟩ : ∃ f, ((v1 : Int) == 1) = f := ⟨_, rfl⟩
        have HFIN := Lib.hid (show decide (v1 = 1) = fin from by rw [← hfin]; by_cases h : v1 = 1 <;> simp [h]; omega)
        have C1 := Lib.hid (rqNumM 1 1 rfl (by omega) (by omega) v1 a1 b1 hL.out.rd hn l3 hv1 ha1 hb1)
        have C2 := Lib.hid (fun (M : Nat) (w' : World) (h : LQ wo r (some ⟨q, o, none⟩) n cap bs a1 b1 M fin [] none 0 w') => rqNum9 2 2 rfl (by omega) (by omega) v2 a2 b2 h (lt_of_cell hL.out.rd.c0) hn la1 hv2 ha2 hb2)
        have LR := Lib.hid (show r < wo.heap.size from lt_of_cell hL.out.rd.c0)
        have HA := Lib.hid (show ∀ q2 o2, (some ⟨q, o, none⟩ : Option Addr) = some ⟨q2, o2, none⟩ → q2 < wo.heap.size from fun q2 o2 e => Nat.lt_of_lt_of_le (HQ.out q2 o2 e) hL.out.b.size)
        clear hv1 ha1 hb1 hv2 ha2 hb2 rn1 rn2 hX
        go_wp2_with fail
        with_reducible refine C1.out.mono ?_
        rintro e w3 ⟨rfl, m3, t3⟩
        have L3 := Lib.hid (show LQ wo r (some ⟨q, o, none⟩) n cap bs a1 b1 w3.heap.size fin [] none 0 (w3.alloc (.cells #[.bool fin, .slice none 0 0] 82)) from by
          have b3 := below_one w3 (.cells #[.bool fin, .slice none 0 0] 82)
          exact ⟨m3.turn (S := fun _ => False) (Turn.of_below b3) (fun x => x) (fun q o e x => x), by rw [cell_alloc rfl]; rfl, by rw [cell_alloc rfl]; rfl, frozen_alloc rfl, World.ownsRow_nil _ _ _ _, fun k e => (by cases e), t3.size, t3.trans (Turn.of_below b3)⟩)
        have C2' := Lib.hid (C2.out _ _ L3.out)
        clear m3 t3 C1 C2 k2 L3
        go_wp2_with fail
        with_reducible refine C2'.out.mono ?_
        rintro e w4 ⟨rfl, hL4⟩
        have L4 := Lib.hid hL4
        generalize w3.heap.size = M at *
        clear hL4 C2'
        go_wp2_with fail
        go_loopw [9] (fun cv wx => ∃ (k : Nat) (es : List PE) (ea : Option Addr) (ec at4 : Nat) (bad4 : Bool), k ≤ v2 ∧ cv = .int .i64 k ∧ at4 ≤ n ∧ es.length + k ≤ v2 ∧ Hid ((bad4 = false → es ++ (rdE bs n k at4 false).1 = X.1 ∧ (rdE bs n k at4 false).2 = X.2) ∧ (bad4 = true → X.2.2 = true)) ∧ Hid (LQ wo r (some ⟨q, o, none⟩) n cap bs at4 bad4 M fin es ea ec wx)) (fun cv _ => (intOf cv).toNat)
        case atStart => exact ⟨v2, [], none, 0, a2, b2, by omega, rfl, la2, by simp, Lib.hid ⟨fun hb => by subst hb; rw [HX.out]; exact ⟨rfl, rfl⟩, XB.out⟩, L4⟩
        case round =>
          clear L4 HX XB
          obtain ⟨k, es, ea, ec, at4, bad4, hk, rfl, l4, hes, hE4, hL4⟩ := hrel
          have g2 := hL4.out.rd.c2
          by_cases hk0 : 0 < k
          · have dk : decide ((0 : Int) < (k : Int)) = true := decide_eq_true (by omega)
            cases bad4 with
            | false =>
              obtain ⟨k', hk'⟩ : ∃ k', k = k' + 1 := ⟨k - 1, by omega⟩
              obtain ⟨l, hl⟩ : ∃ v, numQ bs n at4 4 = v := ⟨_, rfl⟩
              obtain ⟨a4, ha4⟩ : ∃ v, atQ n at4 4 = v := ⟨_, rfl⟩
              obtain ⟨b4, hb4⟩ : ∃ v, (false || !decide (at4 + 4 ≤ n)) = v := ⟨_, rfl⟩
              obtain ⟨t, ht⟩ : ∃ v, numQ bs n a4 2 = v := ⟨_, rfl⟩
              obtain ⟨a5, ha5⟩ : ∃ v, atQ n a4 2 = v := ⟨_, rfl⟩
              obtain ⟨b5, hb5⟩ : ∃ v, (b4 || !decide (a4 + 2 ≤ n)) = v := ⟨_, rfl⟩
              have la4 : a4 ≤ n := ha4 ▸ atQ_le l4
              have la5 : a5 ≤ n := ha5 ▸ atQ_le la4
              have RQ := rdE_q bs n k' at4 l t a4 a5 b4 b5 hl ha4 hb4 ht ha5 hb5
              rw [← hk'] at RQ
              have NX := Lib.hid (show (b5 = false → (es ++ [(l, t)]) ++ (rdE bs n k' a5 false).1 = X.1 ∧ (rdE bs n k' a5 false).2 = X.2) ∧ (b5 = true → X.2.2 = true) from by
                obtain ⟨h1, h2⟩ := hE4.out.1 rfl
                refine ⟨fun hb => ?_, fun hb => ?_⟩
                · rw [RQ.1 hb] at h1 h2
                  exact ⟨by rw [← h1]; simp, h2⟩
                · rw [← h2]; exact RQ.2 hb)
              have C4 := Lib.hid (rqNum9 4 4 rfl (by omega) (by omega) l a4 b4 hL4.out LR.out hn l4 hl ha4 hb4)
              have C5 := Lib.hid (fun (w' : World) (h : LQ wo r (some ⟨q, o, none⟩) n cap bs a4 b4 M fin es ea ec w') => rqNum9 2 2 rfl (by omega) (by omega) t a5 b5 h LR.out hn la4 ht ha5 hb5)
              have hkk : (k : Int) - 1 = (k' : Int) := by omega
              have hkl : k' ≤ v2 := by omega
              have hesl : es.length + 1 + k' ≤ v2 := by omega
              have hkm : k' < k := by omega
              clear hl ha4 hb4 ht ha5 hb5 RQ hk' hE4
              go_upto_region 14 with (go_at_call 41; (with_reducible refine C4.out.mono ?_); rintro e w5 ⟨rfl, hL5⟩)
              have L5 := Lib.hid (hL5.below (Below.refl _ _).drew)
              have y5 := L5.out.c1
              have y5' := hL5.c1
              clear hL5 g2
              go_region_law
                (first
                  | (refine step_append_lies _ (by rfl) _ _ _ (by rfl) wo.heap.size 83 i0 _ 2 16 Try.underlying80 hi hz0 hz1 hz2 rfl (by omega) (.slice ea es.length ec) es.length (peV es) (by first | rfl | (simp [Act.eval]; done) | (simp [Act.eval, Act.put]; done)) (hL6.o.alloc _) ⟨w6.heap.size, 0, none⟩ 1 1 [.int .i64 (l : Int), .int .i64 (t : Int)] (by first | rfl | (simp [Act.eval]; done) | (simp [Act.eval, Act.put]; done)) (by rfl) (World.news_of_block (cs := #[.int .i64 (l : Int), .int .i64 (t : Int)]) (t := 83) (fr := (0, 0)) (heap_alloc_new w6 _)) (by simp [Value.oneCell']) (by omega) (by unfold maxLen; omega) (by omega) (by have := hL6.t.size; simp; omega) (w6.heap.size + 1) (by simp) ?_; intro g8 c8 w8 hown8 hgrow8 hat8 hlt8; obtain ⟨z0, z1⟩ := hL6.kept hgrow8)
                  | (go_simp; go_at_call 41; (with_reducible refine (C5.out _ L5.out).mono ?_); rintro e w6 ⟨rfl, hL6⟩; have y6 := hL6.c1; have y7 := fun ob => (cell_alloc_old (w := w6) (o := ob) (b := M) (p := 1) (lt_of_cell hL6.c0)).trans hL6.c1)
                  | fail)
              all_goals
                have LA := Lib.hid (hL6.app (x := (l, t)) LR.out HA.out hown8 hgrow8 (hat8.imp id (fun e => by simp; exact e)))
                clear hown8 hgrow8 hat8 hlt8 z0 z1 hL6 y5 y6 y7 C4 C5 L5 y5'
                go_wp2_with fail
                go_roundw
                case rel => exact ⟨k', es ++ [(l, t)], some ⟨g8, 0, none⟩, c8, a5, b5, hkl, by go_num, la5, by rw [List.length_append]; exact hesl, NX, LA⟩
                case measure => simp [intOf] <;> omega
            | true =>
              have EF := Lib.hid (show (true = false → es = X.1 ∧ (at4, false) = X.2) ∧ (true = true → X.2.2 = true) from ⟨fun hb => (by cases hb), hE4.out.2⟩)
              have NX := Lib.hid (show (true = false → b0 = false ∧ (rdL bs n (cnt - (i + 1)) at4).map (fun x => ((PL ++ [(⟨fin, es, ea, ec⟩ : PM)]).map pmP ++ x.1, x.2)) = rdL bs n cnt 6) ∧ (true = true → rdcS bs = none) from by
                obtain ⟨h0, h1⟩ := hE.out.1 (by first | rfl | trivial)
                rw [EX.out] at h1
                refine ⟨fun hb => ⟨h0, ?_⟩, fun hb => ?_⟩
                · obtain ⟨e1, e2⟩ := EF.out.1 hb
                  rw [← e1, ← e2, HFIN.out] at h1
                  simp only [Bool.false_eq_true, if_false] at h1
                  rw [← h1]
                  cases rdL bs n (cnt - (i + 1)) at4 <;> simp [pmP]
                · rw [EF.out.2 hb] at h1
                  simp only [if_true, Option.map_none] at h1
                  exact beh_none (Or.inr (by rw [HL.out, HCNT.out]; exact h1.symm)))
              have O5 := Lib.hid (hL.out.q.turn hL4.out.t hL.out.nr hL.out.er).o
              have c0 := hL4.out.c0
              have c1 := hL4.out.c1
              have Z5 := hL4.out.t.size
              have Z6 := hL.out.b.size
              clear hE hE4 EF
              go_wp2_with (at_builtin; refine wpList_append_lies _ rfl (.tmp 63) (.tmp 65) 79 rfl w.heap.size 82 j0 _ 2 32 Try.underlying79 hj hy0 hy1 hy2 rfl (by omega) (.slice pa PL.length pc) PL.length (pmV PL) (by rfl) (O5.out.alloc _) ⟨wr.heap.size, 0, none⟩ 1 1 [.bool fin, .slice ea es.length ec] (by rfl) (by rfl) (World.news_of_block (cs := #[.bool fin, .slice ea es.length ec]) (t := 82) (fr := (0, 0)) (heap_alloc_new wr _)) (by simp [Value.oneCell']) (by omega) (by unfold maxLen; omega) (by omega) (by simp; omega) (wr.heap.size + 1) (by simp) ?_; intro g9 c9 w9 hown9 hgrow9 hat9 hlt9)
              have LA := Lib.hid (hL.out.step HQ.out hL4.out.rd hL4.out.t (x := ⟨fin, es, ea, ec⟩) hL4.out.o hown9 hgrow9 (hat9.imp id (fun e => by rw [e]; simp)))
              clear hown9 hgrow9 hat9 hlt9 O5 c0 c1
              go_roundw
              case rel => exact ⟨i + 1, PL ++ [⟨fin, es, ea, ec⟩], some ⟨g9, 0, none⟩, c9, at4, true, by omega, by simp, by go_num, l4, by simp; omega, NX, LA⟩
              case measure => simp [intOf] <;> omega
          · have dk : decide ((0 : Int) < (k : Int)) = false := decide_eq_false (by omega)
            have EF := Lib.hid (show (bad4 = false → es = X.1 ∧ (at4, false) = X.2) ∧ (bad4 = true → X.2.2 = true) from by
              obtain rfl : k = 0 := by omega
              refine ⟨fun hb => ?_, hE4.out.2⟩
              subst hb
              have h1 := hE4.out.1 rfl
              simpa [rdE] using h1)
            have NX := Lib.hid (show (bad4 = false → b0 = false ∧ (rdL bs n (cnt - (i + 1)) at4).map (fun x => ((PL ++ [(⟨fin, es, ea, ec⟩ : PM)]).map pmP ++ x.1, x.2)) = rdL bs n cnt 6) ∧ (bad4 = true → rdcS bs = none) from by
              obtain ⟨h0, h1⟩ := hE.out.1 (by first | rfl | trivial)
              rw [EX.out] at h1
              refine ⟨fun hb => ⟨h0, ?_⟩, fun hb => ?_⟩
              · obtain ⟨e1, e2⟩ := EF.out.1 hb
                rw [← e1, ← e2, HFIN.out] at h1
                simp only [Bool.false_eq_true, if_false] at h1
                rw [← h1]
                cases rdL bs n (cnt - (i + 1)) at4 <;> simp [pmP]
              · rw [EF.out.2 hb] at h1
                simp only [if_true, Option.map_none] at h1
                exact beh_none (Or.inr (by rw [HL.out, HCNT.out]; exact h1.symm)))
            have O5 := Lib.hid (hL.out.q.turn hL4.out.t hL.out.nr hL.out.er).o
            have c0 := hL4.out.c0
            have c1 := hL4.out.c1
            have Z5 := hL4.out.t.size
            have Z6 := hL.out.b.size
            clear hE hE4 EF
            go_wp2_with (at_builtin; refine wpList_append_lies _ rfl (.tmp 63) (.tmp 65) 79 rfl w.heap.size 82 j0 _ 2 32 Try.underlying79 hj hy0 hy1 hy2 rfl (by omega) (.slice pa PL.length pc) PL.length (pmV PL) (by rfl) (O5.out.alloc _) ⟨wr.heap.size, 0, none⟩ 1 1 [.bool fin, .slice ea es.length ec] (by rfl) (by rfl) (World.news_of_block (cs := #[.bool fin, .slice ea es.length ec]) (t := 82) (fr := (0, 0)) (heap_alloc_new wr _)) (by simp [Value.oneCell']) (by omega) (by unfold maxLen; omega) (by omega) (by simp; omega) (wr.heap.size + 1) (by simp) ?_; intro g9 c9 w9 hown9 hgrow9 hat9 hlt9)
            have LA := Lib.hid (hL.out.step HQ.out hL4.out.rd hL4.out.t (x := ⟨fin, es, ea, ec⟩) hL4.out.o hown9 hgrow9 (hat9.imp id (fun e => by rw [e]; simp)))
            clear hown9 hgrow9 hat9 hlt9 O5 c0 c1
            go_roundw
            case rel => exact ⟨i + 1, PL ++ [⟨fin, es, ea, ec⟩], some ⟨g9, 0, none⟩, c9, at4, bad4, by omega, by simp, by go_num, l4, by simp; omega, NX, LA⟩
            case measure => simp [intOf] <;> omega
    · obtain rfl : i = cnt := by omega
      have dlt : decide ((i : Int) < (i : Int)) = false := decide_eq_false (by omega)
      have dltn : decide (i < i) = false := decide_eq_false (by omega)
      cases bad3 with
      | true =>
        have RN := Lib.hid (rdcP_bad hL.out.b HO.out (hE.out.2 rfl))
        go_wp2_with fail
        go_ret2
        exact RN.out
      | false =>
        obtain ⟨hb0, h1⟩ := hE.out.1 (by first | rfl | trivial)
        have RLS : rdL bs n i 6 = some (PL.map pmP, at3) := by
          rw [Nat.sub_self] at h1
          rw [← h1]; simp [rdL]
        have RLB : rdL bs bs.length (numQ bs bs.length 4 2) 6 = some (PL.map pmP, at3) := by rw [HL.out, HCNT.out]; exact RLS
        have GN := rdL_good bs HB.out i 6 (PL.map pmP) at3 (by rw [HL.out]; exact RLS)
        have BH : BehP bs (PL.map pmP) := beh_ok HO.out (B00.out.1 hb0).2 RLB
        unfold BehP at BH
        have CW := Lib.hid (wds_any wo PL pa pc (hL.out.q.less (Nat.zero_le _)) (fun x hx => GN.1 (pmP x) (List.mem_map_of_mem hx)) (by omega) 13 0 0 ⟨#[]⟩ [] none 0 wo rfl (Below.refl _ _) (World.ownsRow_nil _ _ _ _) (by simp) (by decide) (by omega))
        have RS := Lib.hid (show ∀ t ∈ (rwF (PL.map pmP) 13 0 ⟨#[]⟩ []).2, t.size ≤ 52 from fun t ht => by
          rcases rwF_size (PL.map pmP) 13 0 ⟨#[]⟩ [] t ht with h2 | h2
          · cases h2
          · have e : (⟨#[]⟩ : ByteArray).size = 0 := rfl
            omega)
        have RN := rwF_len (PL.map pmP) 13 0 ⟨#[]⟩ [] (by simp)
        obtain ⟨R, hR⟩ : ∃ R, rwF (PL.map pmP) 13 0 ⟨#[]⟩ [] = R := ⟨_, rfl⟩
        rw [hR] at BH CW RS RN
        have BH := Lib.hid BH
        have BW := Lib.hid hL.out.b
        obtain ⟨ok, ts⟩ := R
        simp only at RN
        rw [show ((0 : Nat) : Int) = 0 from rfl, show (([] : List Tx).length) = 0 from rfl] at CW
        clear hE h1 RLS RLB GN hR hb0
        go_wp2_with fail
        with_reducible refine CW.out.mono ?_
        rintro e w5 ⟨wa, wc, rfl, o5, b5⟩
        have O5 := Lib.hid o5
        have B5 := Lib.hid (BW.out.trans (b5.mono BW.out.size))
        clear o5 b5 CW
        simp only
        cases ok with
        | false =>
          have FIN := Lib.hid (rdcP_bad B5.out HO.out (by rw [BH.out, if_neg (fun h => by cases h.1)]))
          go_wp2_with fail
          go_ret2
          exact FIN.out
        | true =>
          have HT5 := Lib.hid (HoldsT.own O5.out)
          by_cases hv : goodV ts = 0
          · obtain ⟨I, hI⟩ : ∃ I, imgB (grS ts) = I := ⟨_, rfl⟩
            obtain ⟨m, hm⟩ : ∃ m, I.length = m := ⟨_, rfl⟩
            have CO := Lib.hid (rOf_c wa ts.length wc ts I m w5 HT5.out (owns_none O5.out).2 (by omega) hv hI hm)
            have HV := Lib.hid hv
            have HI := Lib.hid hI
            have IB := Lib.hid (show ∀ b ∈ I, b < 256 from by rw [← hI]; exact imgB_lt _)
            clear hv hI hm
            go_wp2_with fail
            with_reducible refine CO.out.mono ?_
            rintro e w6 ⟨a6, c6, rfl, -, h6, -, b6⟩
            have B6 := Lib.hid (B5.out.trans (b6.mono B5.out.size))
            have HT6 := Lib.hid (base_less9 (owns_below O5.out b6) BW.out.size)
            have hc6 := HC.out.below B6.out
            have r1 := run_conv_bytes w6 25 5 9 Try.underlying25 Try.underlying5 Try.underlying9 a6 m c6 I h6
            have r2 := run_conv_bytes w6 25 5 9 Try.underlying25 Try.underlying5 Try.underlying9 (some ⟨q, o, none⟩) n cap bs hc6
            have E := Lib.hid (strN_inj IB.out HB.out)
            clear b6 h6 hc6 CO O5
            by_cases he : I = bs
            · have FIN := Lib.hid (show RdcP w bs (.returned (.tuple #[.slice wa ts.length wc, .int .i64 0])) w6 from by
                refine ⟨B6.out, ?_⟩
                rw [BH.out, if_pos ⟨(by first | rfl | trivial), HV.out, by rw [HI.out]; exact he⟩]
                exact ⟨wa, wc, rfl, HT6.out⟩)
              have e1 : ((strN I).toList == (strN bs).toList) = true := by rw [he]; simp
              have e2 : ((strN I).toList != (strN bs).toList) = false := by rw [he]; simp
              clear he
              go_wp2_with fail
              go_ret2
              exact FIN.out
            · have FIN := Lib.hid (rdcP_bad B6.out HO.out (by rw [BH.out, if_neg (fun h => he (by rw [← HI.out]; exact h.2.2))]))
              have e1 : ((strN I).toList == (strN bs).toList) = false := by
                rw [beq_eq_false_iff_ne]; exact fun h => he (E.out.1 (toList_inj h))
              have e2 : ((strN I).toList != (strN bs).toList) = true := by
                rw [bne_iff_ne]; exact fun h => he (E.out.1 (toList_inj h))
              clear he
              go_wp2_with fail
              go_ret2
              exact FIN.out
          · have CB := Lib.hid (rOf_bad wa ts.length wc ts (goodV ts) w5 HT5.out (by omega) (fun t ht => by have := RS.out t ht; omega) rfl hv)
            have ne : (goodV ts != 0) = true := by simpa using hv
            have FIN := Lib.hid (fun w' (hb : Below w.heap.size w w') => rdcP_bad hb HO.out (by rw [BH.out, if_neg (fun h => hv h.2.1)]))
            obtain ⟨gv, hgv⟩ : ∃ v, goodV ts = v := ⟨_, rfl⟩
            rw [hgv] at CB ne
            clear hv hgv
            go_wp2_with fail
            with_reducible refine CB.out.mono ?_
            rintro e w6 ⟨rfl, hb6⟩
            have F6 := Lib.hid (FIN.out w6 (B5.out.trans (hb6.mono B5.out.size)))
            clear hb6 CB FIN
            go_wp2_with fail
            go_ret2
            exact F6.out
theorem rdec_any (a : Option Addr) (n cap : Nat) (bs : List Nat) (w : World) (h : HoldsB w a n bs) (hc : n ≤ cap) (hn : n ≤ 1048576) :
    Calls Try.prog 19 #[.slice a n cap] w (RdcP w bs) := by
  cases ho : openB bs with
  | true =>
    have h4 : 4 ≤ n := by
      unfold openB at ho
      rw [Bool.and_eq_true] at ho
      have := of_decide_eq_true ho.1
      have := h.len
      omega
    obtain ⟨q, o, rfl, hcc⟩ := h.at (by omega)
    exact rdecode_any q o n cap bs w h (lt_of_cell (hcc 0 (by omega))) hc hn ho h4
  | false =>
    have COP := Lib.hid (rOpened_any a n cap bs w h hn hc)
    rw [ho] at COP
    have FIN := Lib.hid (show RdcP w bs (.returned (.tuple #[.slice none 0 0, .int .i64 9])) w from by
      refine ⟨Below.refl _ _, ?_⟩
      have hd : rdcS bs = none := by unfold rdcS; rw [ho]; rfl
      rw [hd, ho]
      rfl)
    clear h ho
    go_enter Try.func19, Try.ntmps19
    go_wp2_with fail
    with_reducible refine COP.out.mono ?_
    rintro e w1 ⟨rfl, rfl⟩
    go_wp2_with fail
    go_ret2
    exact FIN.out
theorem rdec_yes (a : Option Addr) (n cap : Nat) (bs : List Nat) (ts : List Tx) (m : Nat) (w : World) (h : HoldsB w a n bs) (hc : n ≤ cap) (hn : n ≤ 1048576) (hd : decS bs = some ts) (hm : ts.length = m) :
    Calls Try.prog 19 #[.slice a n cap] w fun e w' => ∃ a' c', e = .returned (.tuple #[.slice a' m c', .int .i64 0]) ∧ w'.ownsRow w.heap.size 9 1 (.slice a' m c') m (strsV ts) ∧ Below w.heap.size w w' := by
  subst hm
  rw [dec_same] at hd
  refine (rdec_any a n cap bs w h hc hn).mono ?_
  rintro e w' ⟨hb, hr⟩
  rw [hd] at hr
  obtain ⟨a', c', rfl, ho⟩ := hr
  exact ⟨a', c', rfl, ho, hb⟩
theorem rdec_no (a : Option Addr) (n cap : Nat) (bs : List Nat) (x : Int) (w : World) (h : HoldsB w a n bs) (hc : n ≤ cap) (hn : n ≤ 1048576) (hd : decS bs = none) (hx : (if openB bs then (8 : Int) else 9) = x) :
    Calls Try.prog 19 #[.slice a n cap] w fun e w' => e = .returned (.tuple #[.slice none 0 0, .int .i64 x]) ∧ Below w.heap.size w w' := by
  rw [dec_same] at hd
  refine (rdec_any a n cap bs w h hc hn).mono ?_
  rintro e w' ⟨hb, hr⟩
  rw [hd] at hr
  subst hx
  exact ⟨hr, hb⟩
end Go.Proofs.Ytlcmndbnknifhaa
/- a copy of a slice with three marked cells of room behind it (LendBytes), and whether such a copy is as it was (KeptBytes) -/
namespace Go.Proofs.Ytlcmndbnknifhaa
open Go.RowKit
set_option linter.unusedVariables false
set_option maxRecDepth 20000

theorem lendBytes_info : (Try.prog.info? 5).map (fun i => (i.zero, i.size, i.bytes)) = some (some (.int .u8 0), 1, 1) := by kernel_rfl
set_option maxHeartbeats 400000 in
theorem lendBytes_any (a : Option Addr) (n cap : Nat) (xs : List Value) (w : World) (h : HoldsV w a n xs) (hnil : a = none → n = 0 ∧ cap = 0) (hn : n ≤ 1048576) (h1 : ∀ u ∈ xs, u.oneCell' = true) :
    Calls Try.prog 17 #[.slice a n cap] w fun e w' => e = .returned (.slice (some ⟨w.heap.size, 0, none⟩) n (n + 3)) ∧ Below w.heap.size w w' ∧ Roomy w' w.heap.size 5 (.int .u8 119) n xs 3 := by
  obtain ⟨i0, hi, hz0, hz1, hz2⟩ := info_parts lendBytes_info
  obtain ⟨hl, hc⟩ := h
  have HC := Lib.hid hc; have HL := Lib.hid hl; have H1 := Lib.hid h1; have HN := Lib.hid hnil
  clear hc hl h1 hnil
  go_enter Try.func17, Try.ntmps17
  have HV : HoldsV w a n xs := ⟨HL.out, HC.out⟩
  replace HV := Lib.hid HV
  go_wp2_with (first | (at_make; refine wpList_make_own _ rfl _ _ 25 rfl w.heap.size 5 i0 (.int .u8 0) 1 Try.underlying25 hi hz0 hz1 _ _ _ (n + 3) rfl rfl (by omega) (by rw [hz2]; omega) (by unfold maxLen; omega) (Nat.le_refl _) ?_; intro w0 hown0 hgrow0) | (at_builtin; refine wpList_append_fits_any _ rfl (.tmp 10) (.tmp 11) 25 rfl w.heap.size 5 i0 1 Try.underlying25 hi hz1 w.heap.size 0 (n + 3) _ rfl hown0 a n cap xs rfl (by simpa using HL.out) HN.out (HV.out.cells hgrow0) H1.out (by omega) ?_; intro w1 hown1 hgrow1; simp only [Nat.zero_add, List.nil_append] at hown1))
  have hb0 : Below w.heap.size w w0 := below_grown hgrow0 (by intro k hk; cases hk)
  have hb1 : Below w.heap.size w w1 := hb0.grown hgrow1 hb0.size (by intro k hk; cases hk; exact Nat.le_refl _)
  have hr1 : Roomy w1 w.heap.size 5 (.int .u8 119) n xs 0 := roomy_of_own HL.out hown1
  have HB1 := Lib.hid hb1; have HR1 := Lib.hid hr1
  clear hb0 hb1 hr1 hown0 hown1 hgrow0 hgrow1
  go_loopw [5] (fun i wr => ∃ k : Nat, k ≤ 3 ∧ i = .int .i64 k ∧ Hid (Roomy wr w.heap.size 5 (.int .u8 119) n xs k) ∧ Hid (Below w.heap.size w wr)) (fun i _ => 3 - (intOf i).toNat)
  case atStart => exact ⟨0, by omega, rfl, HR1, HB1⟩
  case round =>
    obtain ⟨k, hk, rfl, hR, hB⟩ := hrel
    by_cases hlt : k < 3
    · obtain ⟨v, hv⟩ := hR.out.there (n + k) (by omega)
      have hf := hR.out.free (n + k)
      go_wp2
      go_roundw
      case rel => exact ⟨k + 1, by omega, by go_num, hR.out.put hlt, hB.out.setCell (Nat.le_refl _) _⟩
      case measure => simp [intOf]; omega
    · obtain rfl : k = 3 := by omega
      go_wp2
      go_ret
      exact ⟨rfl, hB.out, hR.out⟩
end Go.Proofs.Ytlcmndbnknifhaa
/- whether a lent copy is as it was, its spare room too (KeptBytes) -/
namespace Go.Proofs.Ytlcmndbnknifhaa
open Go.RowKit
set_option linter.unusedVariables false
set_option maxRecDepth 20000

set_option maxHeartbeats 400000 in
theorem keptBytes_any (B : Nat) (e : TypeId) (n : Nat) (z1 : List Int) (a : Option Addr) (n2 cap : Nat) (z2 : List Int) (w : World) (h1 : z1.length = n) (hR : Roomy w B e (.int .u8 119) n (z1.map (Value.int .u8)) 3) (h2 : HoldsI .u8 w a n2 z2) (hn : n ≤ 1048576) (hn2 : n2 ≤ 1048576) :
    Calls Try.prog 20 #[.slice (some ⟨B, 0, none⟩) n (n + 3), .slice a n2 cap] w fun e w' => e = .returned (.bool (decide (z1 = z2))) ∧ ∃ m, w' = w.drewN m := by
  have HR := Lib.hid hR; have H2 := Lib.hid h2; have H1 := Lib.hid h1
  clear hR h2 h1
  have hs : HoldsI .u8 w (some ⟨B, 0, none⟩) n z1 := ⟨H1.out, fun _ => ⟨B, 0, rfl, fun i hi => by
    rw [Nat.zero_add, HR.out.cell i hi, getD_map_int .u8 z1 i (by rw [H1.out]; exact hi)]⟩⟩
  have HS := Lib.hid hs
  clear hs
  go_enter Try.func20, Try.ntmps20
  go_wp2
  go_loop [6] (fun i => ∃ k : Nat, k ≤ 3 ∧ i = .int .i64 k) (fun i => 3 - (intOf i).toNat)
  case atStart => exact ⟨0, by omega, rfl⟩
  case round =>
    obtain ⟨k, hk, rfl⟩ := hrel
    by_cases hlt : k < 3
    · have hv := HR.out.room k hlt
      go_wp2
      go_round
      case rel => exact ⟨k + 1, by omega, by go_num⟩
      case measure => simp [intOf]; omega
    · obtain rfl : k = 3 := by omega
      go_wp2_with fail
      refine (sameBytes_any _ _ _ _ _ _ z1 z2 _ HS.out H2.out (by omega) (by omega)).mono ?_
      rintro e w' ⟨rfl, m, rfl⟩
      go_wp2_with fail
      go_ret
      exact ⟨rfl, m, rfl⟩
end Go.Proofs.Ytlcmndbnknifhaa
/- An argument that is a slice of integers, opened; its bytes. Of whatever program. -/
namespace Go.Proofs.Ytlcmndbnknifhaa
open Go.ChangeShapes Go.WideShapes Go.ChangeAt Go.RowKit
open Go.ChangeMaps (open_string shut_string)
set_option linter.unusedVariables false
set_option maxRecDepth 20000

theorem open_ints_arg {H : Type} {enc : TypeId × Value → H} {P : Program} {W : World} {base : Nat} {t e : TypeId} {k : IntKind} {v : Value} {d : DataW H} {p : List MemPlace}
    (ht : P.underlying t = some (.slice e)) (he : P.underlying e = some (.int k)) (hc : P.cellsOf e = 1)
    (o : Value.okWide P W .any base t v) (h : DataW.Trod enc P W 0 (fun _ => true) true t v d p) :
    ∃ a n cap zs, v = .slice a n cap ∧ HoldsI k W a n zs ∧ (a = none → n = 0 ∧ cap = 0) ∧ n ≤ cap ∧ cap ≤ maxLen ∧ ∀ z ∈ zs, (Lit.int k z).wf = true := by
  obtain ⟨a, len, cap, rfl⟩ := okWide_slice ht o
  obtain ⟨fuel, hf⟩ := h
  rcases open_ints ht he hc hf with ⟨hcs, _⟩ | ⟨x, l, c, zs, hcs, _, hl, hm, hz, _, hcell, hwz⟩
  · simp [Value.cells] at hcs
    obtain ⟨rfl, rfl, rfl⟩ := hcs
    exact ⟨none, 0, 0, [], rfl, HoldsI.nil _ _ _, fun _ => ⟨rfl, rfl⟩, Nat.le_refl _, by unfold maxLen; omega, by simp⟩
  · simp [Value.cells] at hcs
    obtain ⟨rfl, rfl, rfl⟩ := hcs
    have hzc : zs.length = cap := by simpa using hz
    refine ⟨some x, len, cap, zs.take len, rfl, ⟨by simp; omega, fun h0 => ?_⟩, (fun h => by cases h), hl, hm, fun z hz => hwz z (List.mem_of_mem_take hz)⟩
    obtain ⟨b, off, rfl, hcc⟩ := ints_at hcell (by omega)
    refine ⟨b, off, rfl, fun i hi => ?_⟩
    rw [hcc i (by omega)]
    congr 2
    simp only [List.getD_eq_getElem?_getD, List.getElem?_take]
    rw [if_pos hi]
theorem u8_of_wf {z : Int} (h : (Lit.int .u8 z).wf = true) : 0 ≤ z ∧ z < 256 := by
  simp [Lit.wf, IntKind.min, IntKind.max, IntKind.signed, IntKind.bits] at h; omega
theorem i64_of_wf {z : Int} (h : (Lit.int .i64 z).wf = true) : -9223372036854775808 ≤ z ∧ z ≤ 9223372036854775807 := by
  simp [Lit.wf, IntKind.min, IntKind.max, IntKind.signed, IntKind.bits] at h; omega
theorem i32_of_wf {z : Int} (h : (Lit.int .i32 z).wf = true) : -2147483648 ≤ z ∧ z ≤ 2147483647 := by
  simp [Lit.wf, IntKind.min, IntKind.max, IntKind.signed, IntKind.bits] at h; omega
end Go.Proofs.Ytlcmndbnknifhaa
