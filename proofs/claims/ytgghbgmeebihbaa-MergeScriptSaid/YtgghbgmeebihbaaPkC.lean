/- texts joined -/
import Derived.Test.YtgghbgmeebihbaaPkB
import Derived.Test.YtgghbgmeebihbaaPkA
/- merge: contracts over what is plain; awake -/
namespace Go.Proofs.Ytgghbgmeebihbaa
open Go.RowKit
set_option linter.unusedVariables false
set_option maxRecDepth 20000
/-- a merge that the call made, by its plain shards -/
structure CtxM (w0 w : World) (b : Nat) (most : Int) (T : List KV) (P : List SM) (S : Nat → Prop) : Prop where
  m : ∃ L, MAt w b most T L S ∧ L.map spl = P
  s : ∀ k, S k → w0.heap.size ≤ k
  bel : Below w0.heap.size w0 w
theorem CtxM.more {w0 w w' : World} {b : Nat} {most : Int} {T : List KV} {P : List SM} {S : Nat → Prop} (h : CtxM w0 w b most T P S) (hb : Below w.heap.size w w') : CtxM w0 w' b most T P S := by
  obtain ⟨⟨L, m, e⟩, s, t⟩ := h
  exact ⟨⟨L, m.below hb, e⟩, s, t.trans (hb.mono t.size)⟩
theorem CtxM.lt {w0 w : World} {b : Nat} {most : Int} {T : List KV} {P : List SM} {S : Nat → Prop} (h : CtxM w0 w b most T P S) : ∀ k, S k → k < w.heap.size := by
  obtain ⟨⟨L, m, e⟩, s, t⟩ := h
  exact m.lt
theorem CtxM.turn {w0 w w' : World} {b : Nat} {most : Int} {T : List KV} {P : List SM} {S F : Nat → Prop} (h : CtxM w0 w b most T P S) (t : Turn F w w') (hF : ∀ k, S k → ¬ F k) (hF2 : ∀ k, F k → w0.heap.size ≤ k) : CtxM w0 w' b most T P S := by
  obtain ⟨⟨L, m, e⟩, s, tb⟩ := h
  exact ⟨⟨L, m.turn t hF, e⟩, s, tb.trans (t.below hF2 tb.size)⟩
theorem spl_get (L : List SM) (i : Nat) : spl (L.getD i sm0) = (L.map spl).getD i sm0 := (getD_spl L i).symm
theorem wants_spl (most : Int) (T : List KV) (L : List SM) : wantsL most T (L.map spl) = wantsL most T L := by
  unfold wantsL wantN
  rw [done_spl, List.length_map]
  simp only [getD_spl]
  rfl
theorem seq_spl (L : List SM) (s : Int) : seqS (L.map spl) s = seqS L s := by
  unfold seqS
  rw [List.length_map, getD_spl]
  rfl
theorem fitN_spl (x : SM) (ks : List KV) : ∀ n, fitN (spl x) ks n = fitN x ks n
  | 0 => rfl
  | n + 1 => by
    unfold fitN
    rw [fitN_spl x ks n]
    rfl
theorem put_spl (most : Int) (T : List KV) (L : List SM) (s q : Int) (ks : List KV) (en : Bool) : putB most T (L.map spl) s q ks en = putB most T L s q ks en := by
  unfold putB fitsB
  rw [List.length_map, done_spl, getD_spl, fitN_spl]
  rfl
def putSM (x : SM) (ks : List KV) (en : Bool) : SM := putM x none ks.length 0 ks en
theorem putSM_spl (L : List SM) (i : Nat) (wa : Option Addr) (wc : Nat) (ks : List KV) (en : Bool) : (L.set i (putM (L.getD i sm0) wa ks.length wc ks en)).map spl = (L.map spl).set i (putSM ((L.map spl).getD i sm0) ks en) := by
  rw [List.map_set, getD_spl]
  rfl
theorem spl_seq {L : List SM} {P : List SM} (e : L.map spl = P) (h : ∀ x ∈ P, 0 ≤ x.seq ∧ x.seq ≤ 1000000000) : ∀ x ∈ L, 0 ≤ x.seq ∧ x.seq ≤ 1000000000 := fun x hx => by
  have := h (spl x) (by rw [← e]; exact List.mem_map_of_mem hx)
  exact this
theorem mnew_c {w0 : World} (a : Option Addr) (n cap : Nat) (zs : List Int) (m : Int) (w : World) (hh : HoldsI .i64 w a n zs) (hn : 1 ≤ n ∧ n ≤ 6) (hm : 1 ≤ m ∧ m ≤ 10) (hb : Below w0.heap.size w0 w) :
    Calls Try.prog 11 #[.slice a n cap, .int .i64 m] w fun e w' => ∃ b, e = .returned (.tuple #[.pointer (some ⟨b, 0, none⟩), .int .i64 0]) ∧ ∃ S, CtxM w0 w' b m [] (zs.map mkS) S ∧ (∀ k, S k → w.heap.size ≤ k) ∧ Below w.heap.size w w' :=
  (mnew_any a n cap zs m w hh hn hm).mono fun e w' ⟨b, S, e1, h1, h2, h3⟩ => ⟨b, e1, S, ⟨⟨_, h1, by rw [List.map_map]; rfl⟩, fun k hk => Nat.le_trans hb.size (h2 k hk), hb.trans (h3.mono hb.size)⟩, h2, h3⟩
def PutC (w0 w : World) (b : Nat) (most : Int) (T : List KV) (P : List SM) (S : Nat → Prop) (z : Bool) (e : Ending) (w' : World) : Prop :=
  e = .returned (.bool z) ∧ ∃ S', CtxM w0 w' b most T P S' ∧ (∀ k, S' k → S k ∨ w.heap.size ≤ k) ∧ Turn S w w'
theorem mput_c (s q : Int) (ia : Option Addr) (n ic : Nat) (ks : List KV) (en z : Bool) (P' : List SM) {w0 : World} {b : Nat} {most : Int} {T : List KV} {P : List SM} {S : Nat → Prop} (w : World) (h : CtxM w0 w b most T P S) (hl : P.length ≤ 1000)
    (hi : HoldsK w ia n ks) (hin : ia = none → n = 0 ∧ ic = 0) (hn : n ≤ 9223372036854775807) (hiS : 0 < n → ∀ fb fo, ia = some ⟨fb, fo, none⟩ → ¬ S fb) (hsq : ∀ x ∈ P, 0 ≤ x.seq ∧ x.seq ≤ 1000000000) (hz : putB most T P s q ks en = z)
    (hP : (if z then P.set s.toNat (putSM (P.getD s.toNat sm0) ks en) else P) = P') :
    Calls Try.prog 15 #[.pointer (some ⟨b, 0, none⟩), .int .i64 s, .int .i64 q, .slice ia n ic, .bool en] w (PutC w0 w b most T P' S z) := by
  obtain ⟨⟨L, m, e⟩, hs, hb⟩ := h
  subst e hP
  rw [put_spl] at hz
  rw [List.length_map] at hl
  refine (mput_any s q ia n ic ks en z b w m hl hi hin hn hiS (spl_seq rfl hsq) hz).mono fun e w' ⟨e1, h2⟩ => ⟨e1, ?_⟩
  cases z
  · exact ⟨S, ⟨⟨L, m.below h2, rfl⟩, hs, hb.trans (h2.mono hb.size)⟩, fun k hk => Or.inl hk, Turn.of_below h2⟩
  · obtain ⟨wa, wc, S', m', hs', t'⟩ := h2
    refine ⟨S', ⟨⟨_, m', by rw [putSM_spl]; rfl⟩, fun k hk => ?_, hb.trans (t'.below hs hb.size)⟩, hs', t'⟩
    rcases hs' k hk with hh | hh
    · exact hs k hh
    · exact Nat.le_trans hb.size hh
theorem mput_no (s q : Int) (ia : Option Addr) (n ic : Nat) (ks : List KV) (en : Bool) {w0 : World} {b : Nat} {most : Int} {T : List KV} {P : List SM} {S : Nat → Prop} (w : World) (h : CtxM w0 w b most T P S) (hl : P.length ≤ 1000)
    (hi : HoldsK w ia n ks) (hin : ia = none → n = 0 ∧ ic = 0) (hn : n ≤ 9223372036854775807) (hiS : 0 < n → ∀ fb fo, ia = some ⟨fb, fo, none⟩ → ¬ S fb) (hsq : ∀ x ∈ P, 0 ≤ x.seq ∧ x.seq ≤ 1000000000) (hz : putB most T P s q ks en = false) :
    Calls Try.prog 15 #[.pointer (some ⟨b, 0, none⟩), .int .i64 s, .int .i64 q, .slice ia n ic, .bool en] w fun e w' => e = .returned (.bool false) ∧ Below w.heap.size w w' := by
  obtain ⟨⟨L, m, e⟩, hs, hb⟩ := h
  subst e
  rw [put_spl] at hz
  rw [List.length_map] at hl
  exact (mput_any s q ia n ic ks en false b w m hl hi hin hn hiS (spl_seq rfl hsq) hz).mono fun e w' ⟨e1, h2⟩ => ⟨e1, h2⟩
theorem CtxM.arg {w0 w : World} {b : Nat} {most : Int} {T : List KV} {P : List SM} {S : Nat → Prop} (h : CtxM w0 w b most T P S) {ia : Option Addr} {n : Nat} {ks : List KV} (hk : HoldsK w0 ia n ks) : 0 < n → ∀ fb fo, ia = some ⟨fb, fo, none⟩ → ¬ S fb := fun hn fb fo e hs => by
  obtain ⟨b2, o, hbe, hc⟩ := hk.2 hn
  rw [e] at hbe
  injection hbe with hbe; injection hbe with e1 e2; subst e1 e2
  have h1 : fb < w0.heap.size := lt_of_cell (hc 0 hn).1
  have := h.s fb hs
  omega
def TellC (w0 w : World) (b : Nat) (most : Int) (S : Nat → Prop) (T' : List KV) (P' : List SM) (out : List KV) (e : Ending) (w' : World) : Prop :=
  ∃ oa oc, e = .returned (.slice oa out.length oc) ∧ ∃ S', CtxM w0 w' b most T' P' S' ∧ w'.ownsRow w.heap.size 61 2 (.slice oa out.length oc) out.length (keysV out) ∧ (∀ g, oa = some ⟨g, 0, none⟩ → ¬ S' g) ∧ (∀ k, S' k → S k ∨ w.heap.size ≤ k) ∧ Turn S w w'
theorem mtell_c (T' : List KV) (P' : List SM) (out : List KV) {w0 : World} {b : Nat} {most : Int} {T : List KV} {P : List SM} {S : Nat → Prop} (w : World) (h : CtxM w0 w b most T P S) (hl : P.length ≤ 1000) (hm : most ≤ 10) (hT : T.length ≤ 1000)
    (hR : tellF most 10 T P [] = (T', P', out)) :
    Calls Try.prog 19 #[.pointer (some ⟨b, 0, none⟩)] w (TellC w0 w b most S T' P' out) := by
  obtain ⟨⟨L, m, e⟩, hs, hb⟩ := h
  subst e
  rw [List.length_map] at hl
  have := mtell_any 10 b w m hl (by omega) (by omega) hT
  rw [hR] at this
  refine this.mono fun e w' ⟨oa, oc, L', S', e1, t, e2⟩ => ⟨oa, oc, e1, S', ⟨⟨L', t.m, e2⟩, fun k hk => ?_, hb.trans (t.t.below hs hb.size)⟩, t.o, t.a, t.s, t.t⟩
  rcases t.s k hk with hh | hh
  · exact hs k hh
  · exact Nat.le_trans hb.size hh
theorem mwants_c (zs : List Int) {w0 : World} {b : Nat} {most : Int} {T : List KV} {P : List SM} {S : Nat → Prop} (w : World) (h : CtxM w0 w b most T P S) (hl : P.length ≤ 1000) (hz : natsZ (wantsL most T P) = zs) :
    Calls Try.prog 29 #[.pointer (some ⟨b, 0, none⟩)] w (RetZ w zs) := by
  obtain ⟨⟨L, m, e⟩, hs, hb⟩ := h
  subst e hz
  rw [List.length_map] at hl
  rw [wants_spl]
  exact mwants_any b w m hl
theorem mdone_c (z : Bool) {w0 : World} {b : Nat} {most : Int} {T : List KV} {P : List SM} {S : Nat → Prop} (w : World) (h : CtxM w0 w b most T P S) (hl : P.length ≤ 1000) (hz : doneB most T P = z) :
    Calls Try.prog 31 #[.pointer (some ⟨b, 0, none⟩)] w fun e w' => e = .returned (.bool z) ∧ Below w.heap.size w w' := by
  obtain ⟨⟨L, m, e⟩, hs, hb⟩ := h
  subst e
  rw [List.length_map] at hl
  rw [done_spl] at hz
  exact mdone_any z b w m hl hz
theorem mseq_c (s v : Int) {w0 : World} {b : Nat} {most : Int} {T : List KV} {P : List SM} {S : Nat → Prop} (w : World) (h : CtxM w0 w b most T P S) (hl : P.length ≤ 1000) (hv : seqS P s = v) :
    Calls Try.prog 30 #[.pointer (some ⟨b, 0, none⟩), .int .i64 s] w fun e w' => e = .returned (.int .i64 v) ∧ w = w' := by
  obtain ⟨⟨L, m, e⟩, hs, hb⟩ := h
  subst e
  rw [List.length_map] at hl
  rw [seq_spl] at hv
  exact mseq_any s v b w m hl hv
theorem mtold_c {w0 : World} {b : Nat} {most : Int} {T : List KV} {P : List SM} {S : Nat → Prop} (w : World) (h : CtxM w0 w b most T P S) (hl : T.length ≤ 50000) :
    Calls Try.prog 32 #[.pointer (some ⟨b, 0, none⟩)] w (RetI w T) := by
  obtain ⟨⟨L, m, e⟩, hs, hb⟩ := h
  exact mtold_any b w m hl
/-! awake's own -/
def mkA : KV := (0, ⟨#[97]⟩)
def mkB : KV := (1, ⟨#[98]⟩)
def mkC : KV := (2, ⟨#[99]⟩)
def aw0 : List SM := [0, 0].map mkS
def aw1 : List SM := [putSM (mkS 0) [mkA, mkC] true, mkS 0]
def aw2 : List SM := [putSM (mkS 0) [mkA, mkC] true, putSM (mkS 0) [mkB] false]
def aw3 : List SM := [popS (putSM (mkS 0) [mkA, mkC] true), popS (putSM (mkS 0) [mkB] false)]
theorem aw_p1 : putB 3 [] aw0 0 0 [mkA, mkC] true = true := by decide +kernel
theorem aw_t1 : tellF 3 10 [] aw1 [] = ([], aw1, []) := by kernel_rfl
theorem aw_p2 : putB 3 [] aw1 1 0 [mkB] false = true := by decide +kernel
theorem aw_t2 : tellF 3 10 [] aw2 [] = ([mkA, mkB], aw3, [mkA, mkB]) := by kernel_rfl
theorem aw_w : natsZ (wantsL 3 [mkA, mkB] aw3) = [1] := by decide +kernel
theorem aw_d : doneB 3 [mkA, mkB] aw3 = false := by decide +kernel
theorem holdsK_lit1 (w : World) (a : KV) (e : TypeId) (fr : Nat × Nat) : HoldsK (w.alloc (.cells #[.int .i64 a.1, .string a.2] e fr)) (some ⟨w.heap.size, 0, none⟩) 1 [a] := by
  refine ⟨rfl, fun _ => ⟨w.heap.size, 0, rfl, fun i hi => ?_⟩⟩
  obtain rfl : i = 0 := by omega
  constructor <;> (rw [World.cell?_alloc_mark]; rfl)
set_option maxHeartbeats 3200000 in
set_option maxRecDepth 100000 in
theorem awakeM_any (w : World) : Calls Try.prog 10 #[] w fun e w' => e = .returned (.bool true) ∧ Below w.heap.size w w' := by
  have H1 := Lib.hid (holdsI_lit .i64 w [0, 0] 3 (0, 0))
  have CN := Lib.hid (mnew_c (w0 := w) (some ⟨w.heap.size, 0, none⟩) 2 2 [0, 0] 3 _ H1.out (by decide) (by decide) (below_one w _))
  go_enter Try.func10, Try.ntmps10
  go_wp2_with fail
  refine CN.out.mono ?_
  rintro e w1 ⟨b, rfl, S1, h1, -, -⟩
  have C1 := Lib.hid (h1.more (below_one w1 (.cells #[.int .i64 mkA.1, .string mkA.2, .int .i64 mkC.1, .string mkC.2] 61)))
  have L1 := Lib.hid h1.lt
  have CP := Lib.hid (mput_c 0 0 (some ⟨w1.heap.size, 0, none⟩) 2 2 [mkA, mkC] true true aw1 _ C1.out (by decide) (holdsK_lit2 w1 mkA mkC 61 (0, 0)) (some_none _) (by decide) (fun _ fb fo e hs => by injection e with e; injection e with e; have := L1.out _ hs; omega) (by decide) aw_p1 rfl)
  clear h1 CN H1
  go_wp2_with fail
  refine CP.out.mono ?_
  rintro e w2 ⟨rfl, S2, h2, -, -⟩
  have CT := Lib.hid (mtell_c [] aw1 [] w2 h2 (by decide) (by decide) (by decide) aw_t1)
  clear h2 CP C1 L1
  go_wp2_with fail
  refine CT.out.mono ?_
  rintro e w3 ⟨oa, oc, rfl, S3, h3, -, -, -, -⟩
  have C3 := Lib.hid (h3.more (below_one w3 (.cells #[.int .i64 mkB.1, .string mkB.2] 61)))
  have L3 := Lib.hid h3.lt
  have CP := Lib.hid (mput_c 1 0 (some ⟨w3.heap.size, 0, none⟩) 1 1 [mkB] false true aw2 _ C3.out (by decide) (holdsK_lit1 w3 mkB 61 (0, 0)) (some_none _) (by decide) (fun _ fb fo e hs => by injection e with e; injection e with e; have := L3.out _ hs; omega) (by decide) aw_p2 rfl)
  clear h3 CT
  go_wp2_with fail
  refine CP.out.mono ?_
  rintro e w4 ⟨rfl, S4, h4, -, -⟩
  have CT := Lib.hid (mtell_c [mkA, mkB] aw3 [mkA, mkB] w4 h4 (by decide) (by decide) (by decide) aw_t2)
  clear h4 CP C3 L3
  go_wp2_with fail
  refine CT.out.mono ?_
  rintro e w5 ⟨oa, oc, rfl, S5, h5, ho, -, -, -⟩
  have C5 := Lib.hid (h5.more (below_one w5 (.cells #[.int .i64 mkA.1, .string mkA.2, .int .i64 mkB.1, .string mkB.2] 61)))
  have CS := Lib.hid (sameItems_yes oa (some ⟨w5.heap.size, 0, none⟩) 2 oc 2 [mkA, mkB] _ ((HoldsK.own ho).below (below_one w5 _)) (holdsK_lit2 w5 mkA mkB 61 (0, 0)) (by decide))
  clear h5 ho CT
  go_wp2_with fail
  refine CS.out.mono ?_
  rintro e w6 ⟨rfl, hb6⟩
  have C6 := Lib.hid (C5.out.more hb6)
  have CW := Lib.hid (mwants_c [1] w6 C6.out (by decide) aw_w)
  clear hb6 CS C5
  go_wp2_with fail
  refine CW.out.mono ?_
  rintro e w7 ⟨za, zc, rfl, hz, hb7⟩
  have C7 := Lib.hid (C6.out.more hb7)
  have C8 := Lib.hid (C7.out.more (below_one w7 (.cells #[.int .i64 1] 3)))
  have CS := Lib.hid (sameInts_any za (some ⟨w7.heap.size, 0, none⟩) 1 zc 1 1 [1] [1] _ ((holdsZ_own hz).below (below_one w7 _)) (holdsI_lit .i64 w7 [1] 3 (0, 0)) (by decide) (by decide))
  clear hb7 hz CW C6 C7
  go_wp2_with fail
  refine CS.out.mono ?_
  rintro e w9 ⟨rfl, m, rfl⟩
  have C9 := Lib.hid (C8.out.more (below_drewN _ m))
  have CD := Lib.hid (mdone_c false _ C9.out (by decide) aw_d)
  clear CS C8
  go_wp2_with fail
  refine CD.out.mono ?_
  rintro e w10 ⟨rfl, hb⟩
  go_wp2_with fail
  go_ret
  exact ⟨rfl, C9.out.bel.trans (hb.mono C9.out.bel.size)⟩
end Go.Proofs.Ytgghbgmeebihbaa
/- a slice in a cell of an argument, opened -/
namespace Go.Proofs.Ytgghbgmeebihbaa
open Go.ChangeShapes Go.WideShapes Go.ChangeAt Go.RowKit Go.Deep
set_option linter.unusedVariables false
set_option maxRecDepth 20000
theorem open_rows_cell {H : Type} {enc : TypeId × Value → H} {P : Program} {W : World} {t e : TypeId} {k : Nat} {c : Value} {fuel : Nat} {y : DataW H × List MemPlace}
    (ht : P.underlying t = some (.slice e)) (hc : P.cellsOf e = k) (hk : 0 < k) (good : List Value → Prop)
    (hgood : ∀ m cs y, DataW.trod enc P W 0 (fun _ => true) true m e cs = some y → good cs)
    (hf : DataW.trod enc P W 0 (fun _ => true) true fuel t [c] = some y) :
    ∃ (a : Option Addr) (n cap : Nat) (R : Nat → List Value), c = .slice a n cap ∧ (a = none → n = 0 ∧ cap = 0) ∧ n ≤ cap ∧ cap ≤ maxLen ∧ (∀ i, i < n → good (R i)) ∧
      (0 < n → ∃ b o, a = some ⟨b, o, none⟩ ∧ ∀ i, i < n → ∀ j, j < k → W.cell? ⟨b, o + i * k + j, none⟩ = (R i)[j]?) := by
  rcases open_slice ht hf with ⟨hcs, _⟩ | ⟨x, len, cap, m, n, D, Pl, hcs, _, hl, hm, hmm, _, hx⟩
  · obtain rfl : c = .slice none 0 0 := by simpa using hcs
    exact ⟨none, 0, 0, fun _ => [], rfl, fun _ => ⟨rfl, rfl⟩, Nat.le_refl _, by unfold maxLen; omega, by simp, by simp⟩
  · obtain rfl : c = .slice (some x) len cap := by simpa using hcs
    simp at hmm
    subst hmm
    rw [hc] at hx
    have hR : ∀ i, ∃ cs' : List Value, i < m → W.cells? 0 (x.add (i * k)) k = some cs' ∧ good cs' := fun i => by
      by_cases hi : i < m
      · obtain ⟨cs', h1, h2⟩ := hx i hi
        exact ⟨cs', fun _ => ⟨h1, hgood _ _ _ h2⟩⟩
      · exact ⟨[], fun h => absurd h hi⟩
    refine ⟨some x, len, m, fun i => (hR i).choose, rfl, (fun h => by cases h), hl, hm, fun i hi => ((hR i).choose_spec (by omega)).2, fun h0 => ?_⟩
    have h1 := fun i (hi : i < m) => (World.cells?_some ((hR i).choose_spec hi).1)
    obtain ⟨b, off, spot⟩ := x
    have hspot : spot = none := by
      have h2 := (h1 0 (by omega)).2.2 0 hk
      have h3 := (h1 0 (by omega)).2.1
      have h4 : ((hR 0).choose)[0]? = some (((hR 0).choose)[0]'(by omega)) := List.getElem?_eq_getElem _
      rw [h4] at h2
      simpa [Addr.add] using World.cell?_spot h2
    subst hspot
    refine ⟨b, off, rfl, fun i hi j hj => ?_⟩
    have h2 := (h1 i (by omega)).2.2 j hj
    rw [← h2, Go.WideShapes.add_plain, Go.WideShapes.add_plain]
end Go.Proofs.Ytgghbgmeebihbaa
/- a slice in a field of a struct that is an argument, opened -/
namespace Go.Proofs.Ytgghbgmeebihbaa
open Go.ChangeShapes Go.WideShapes Go.ChangeAt Go.RowKit Go.Deep
set_option linter.unusedVariables false
set_option maxRecDepth 20000
theorem open_pairs_cell {H : Type} {enc : TypeId × Value → H} {W : World} {c : Value} {fuel : Nat} {y : DataW H × List MemPlace} {t e : TypeId} {fs : Array Field} {f0 f1 : Field}
    (ht : Try.prog.underlying t = some (.slice e)) (he : Try.prog.underlying e = some (.struct fs)) (hc : Try.prog.cellsOf e = 2) (hf0 : fs[0]? = some f0) (hf1 : fs[1]? = some f1) (g0 : f0.type = 3 ∧ f0.offset = 0) (g1 : f1.type = 9 ∧ f1.offset = 1)
    (hf : DataW.trod enc Try.prog W 0 (fun _ => true) true fuel t [c] = some y) :
    ∃ a n cap ks, c = .slice a n cap ∧ HoldsK W a n ks ∧ (a = none → n = 0 ∧ cap = 0) ∧ n ≤ cap ∧ n ≤ 9223372036854775807 ∧ ∀ k ∈ ks, KeyOk k := by
  obtain ⟨a, n, cap, R, rfl, hnil, h1, h2, hg, hc⟩ := open_rows_cell ht hc (by omega) (fun cs => ∃ k : KV, KeyOk k ∧ cs = [.int .i64 k.1, .string k.2]) (fun _ _ _ h => pair_of he hc hf0 hf1 g0 g1 h) hf
  have hx : ∀ i, ∃ k : KV, i < n → KeyOk k ∧ R i = [.int .i64 k.1, .string k.2] := fun i => by
    by_cases hi : i < n
    · obtain ⟨x, h3⟩ := hg i hi
      exact ⟨x, fun _ => h3⟩
    · exact ⟨k0, fun h => absurd h hi⟩
  have hget : ∀ i, i < n → ((List.range n).map fun i => (hx i).choose).getD i k0 = (hx i).choose := fun i hi => by simp [List.getD_eq_getElem?_getD, hi]
  refine ⟨a, n, cap, (List.range n).map fun i => (hx i).choose, rfl, ⟨by simp, fun h0 => ?_⟩, hnil, h1, by unfold maxLen at h2; omega, fun k hk => ?_⟩
  · obtain ⟨b, o, ha, hcell⟩ := hc h0
    refine ⟨b, o, ha, fun i hi => ?_⟩
    have e := ((hx i).choose_spec hi).2
    have c0 := hcell i hi 0 (by omega)
    have c1 := hcell i hi 1 (by omega)
    rw [e] at c0 c1
    rw [hget i hi]
    exact ⟨by simpa using c0, by simpa using c1⟩
  · obtain ⟨i, hi, rfl⟩ := List.mem_map.1 hk
    exact ((hx i).choose_spec (by simpa using hi)).1
end Go.Proofs.Ytgghbgmeebihbaa
/- merge: acts as arguments -/
namespace Go.Proofs.Ytgghbgmeebihbaa
open Go.ChangeShapes Go.WideShapes Go.ChangeAt Go.RowKit
set_option linter.unusedVariables false
set_option maxRecDepth 20000
structure MAct where
  tell : Bool
  en : Bool
  shard : Int
  seq : Int
  ia : Option Addr
  inn : Nat
  ic : Nat
  ks : List KV
def MActOk (W : World) (x : MAct) : Prop := HoldsK W x.ia x.inn x.ks ∧ (x.ia = none → x.inn = 0 ∧ x.ic = 0) ∧ x.inn ≤ 9223372036854775807 ∧ ∀ k ∈ x.ks, KeyOk k
def mactCells (x : MAct) : List Value := [.bool x.tell, .bool x.en, .int .i64 x.shard, .int .i64 x.seq, .slice x.ia x.inn x.ic]
theorem cells_mact : Try.prog.cellsOf 36 = 5 := by kernel_rfl
theorem cells_mint : Try.prog.cellsOf 3 = 1 := by kernel_rfl
theorem cells_mbool : Try.prog.cellsOf 4 = 1 := by kernel_rfl
theorem cells_mitems : Try.prog.cellsOf 34 = 1 := by kernel_rfl
theorem mact_of {H : Type} {enc : TypeId × Value → H} {W : World} {fuel : Nat} {cs : List Value} {y : DataW H × List MemPlace}
    (h : DataW.trod enc Try.prog W 0 (fun _ => true) true fuel 36 cs = some y) : ∃ x : MAct, MActOk W x ∧ cs = mactCells x := by
  obtain ⟨hl, n, hf⟩ := struct_cells Try.underlying36 h
  rw [cells_mact] at hl
  obtain ⟨c0, c1, c2, c3, c4, rfl⟩ : ∃ c0 c1 c2 c3 c4, cs = [c0, c1, c2, c3, c4] := by
    match cs, hl with
    | [c0, c1, c2, c3, c4], _ => exact ⟨c0, c1, c2, c3, c4, rfl⟩
  obtain ⟨y0, z0⟩ := hf 0 _ rfl
  obtain ⟨y1, z1⟩ := hf 1 _ rfl
  obtain ⟨y2, z2⟩ := hf 2 _ rfl
  obtain ⟨y3, z3⟩ := hf 3 _ rfl
  obtain ⟨y4, z4⟩ := hf 4 _ rfl
  simp [cells_mint, cells_mbool, cells_mitems] at z0 z1 z2 z3 z4
  obtain ⟨d0, h0, _⟩ := DataW.trod_bool Try.underlying4 z0
  obtain ⟨d1, h1, _⟩ := DataW.trod_bool Try.underlying4 z1
  obtain ⟨k2, h2, _, _⟩ := DataW.trod_int Try.underlying3 z2
  obtain ⟨k3, h3, _, _⟩ := DataW.trod_int Try.underlying3 z3
  obtain ⟨a, na, ca, xs, hx, g1, g2, g3, g4, g5⟩ := open_pairs_cell Try.underlying34 Try.underlying61 (by kernel_rfl) rfl rfl ⟨rfl, rfl⟩ ⟨rfl, rfl⟩ z4
  simp at h0 h1 h2 h3
  subst h0 h1 h2 h3 hx
  exact ⟨⟨d0, d1, k2, k3, a, na, ca, xs⟩, ⟨g1, g2, g4, g5⟩, rfl⟩
theorem open_mact {H : Type} {enc : TypeId × Value → H} {W : World} {base : Nat} {v : Value} {d : DataW H} {p : List MemPlace}
    (hv : Value.okWide Try.prog W .any base 36 v) (h : DataW.Trod enc Try.prog W 0 (fun _ => true) true 36 v d p) : ∃ x : MAct, MActOk W x ∧ v = .agg #[.bool x.tell, .bool x.en, .int .i64 x.shard, .int .i64 x.seq, .slice x.ia x.inn x.ic] := by
  obtain ⟨cs, rfl, hsz⟩ := okWide_struct Try.underlying36 hv
  obtain ⟨fuel, hf⟩ := h
  obtain ⟨x, hx, h1⟩ := mact_of hf
  refine ⟨x, hx, ?_⟩
  congr 1
  apply Array.toList_inj.1
  simpa [Value.cells, mactCells] using h1
theorem open_macts_arg {H : Type} {enc : TypeId × Value → H} {W : World} {base : Nat} {v : Value} {d : DataW H} {p : List MemPlace}
    (o : Value.okWide Try.prog W .any base 23 v) (h : DataW.Trod enc Try.prog W 0 (fun _ => true) true 23 v d p) :
    ∃ (a : Option Addr) (n cap : Nat) (xs : Nat → MAct), v = .slice a n cap ∧ n ≤ maxLen ∧ (∀ i, i < n → MActOk W (xs i)) ∧ (0 < n → ∃ b o, a = some ⟨b, o, none⟩ ∧ ∀ i, i < n → ∀ j, j < 5 → W.cell? ⟨b, o + i * 5 + j, none⟩ = (mactCells (xs i))[j]?) := by
  obtain ⟨a, n, cap, R, rfl, _, h1, h2, hg, hc⟩ := open_rows_arg Try.underlying23 cells_mact (by omega) (fun cs => ∃ x : MAct, MActOk W x ∧ cs = mactCells x) (fun _ _ _ h => mact_of h) o h
  have hx : ∀ i, ∃ x : MAct, i < n → MActOk W x ∧ R i = mactCells x := fun i => by
    by_cases hi : i < n
    · obtain ⟨x, h3⟩ := hg i hi
      exact ⟨x, fun _ => h3⟩
    · exact ⟨⟨false, false, 0, 0, none, 0, 0, []⟩, fun h => absurd h hi⟩
  refine ⟨a, n, cap, fun i => (hx i).choose, rfl, Nat.le_trans h1 h2, fun i hi => ((hx i).choose_spec hi).1, fun h0 => ?_⟩
  obtain ⟨b, o, ha, hcell⟩ := hc h0
  exact ⟨b, o, ha, fun i hi j hj => (hcell i hi j hj).trans (congrArg (fun l : List Value => l[j]?) ((hx i).choose_spec hi).2)⟩
end Go.Proofs.Ytgghbgmeebihbaa
