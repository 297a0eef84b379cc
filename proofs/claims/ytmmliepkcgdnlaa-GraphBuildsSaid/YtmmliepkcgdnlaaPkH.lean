/- texts joined -/
import Derived.Test.YtmmliepkcgdnlaaPkG
import Derived.Test.YtmmliepkcgdnlaaPkF
import Derived.Test.YtmmliepkcgdnlaaPkA
import Derived.Test.YtmmliepkcgdnlaaPkB
import Derived.Test.YtmmliepkcgdnlaaPkE
import Derived.Test.YtmmliepkcgdnlaaPkC
/- the document's Text, Prefix of one rune; its same -/
namespace Go.Proofs.Ytmmliepkcgdnlaa
open Go.RowKit
set_option linter.unusedVariables false
set_option maxRecDepth 20000
theorem encS_nums (r : Int) (l : List Int) (h : Lib.encodeRuneZ r = l) : strOfNums l = encS r := by
  subst h; rfl
theorem conv_lit (w : World) (xs : List Int) (n : Nat) (hn : xs.length = n) (h0 : 0 < n) : (convert 89 9 (.slice (some ⟨w.heap.size, 0, none⟩) n n)).run Try.prog (w.alloc (.cells (xs.map (Value.int .u8)).toArray 5)) = .ok (.string (strOfNums xs)) (w.alloc (.cells (xs.map (Value.int .u8)).toArray 5)) := by
  refine run_convert_bytes_arg (P := Try.prog) _ 89 5 Try.underlying89 Try.underlying5 w.heap.size 0 n n xs hn (fun i hi => ?_) 9 Try.underlying9
  show (w.alloc (.cells (xs.map (Value.int .u8)).toArray 5)).cell? _ = _
  rw [Nat.zero_add, World.cell?_alloc_mark]
  simp [List.getD_eq_getElem?_getD, hn, hi]
set_option maxHeartbeats 1600000 in
theorem bytes_any (r : Int) (w : World) (h : goodP r) :
    Calls Try.prog 84 #[.int .i32 r] w fun e w' => e = .returned (.string (encS r)) ∧ Below w.heap.size w w' := by
  have hc : r < 128 ∨ (128 ≤ r ∧ r < 2048) ∨ (2048 ≤ r ∧ r < 65536) ∨ 65536 ≤ r := by omega
  obtain ⟨g0, g1, g2, g3⟩ := h
  rcases hc with h | ⟨h, h2⟩ | ⟨h, h2⟩ | h
  · have hconv := conv_lit w [r] 1 rfl (by omega)
    have E := Lib.hid (encS_nums r _ (Lib.encodeRuneZ_one g0 (by omega)))
    dsimp only [List.map] at hconv
    go_enter Try.func84, Try.ntmps84
    go_wp2_with fail
    go_ret
    exact ⟨(show Ending.returned (Value.string _) = .returned (Value.string _) by rw [E.out]), below_one _ _⟩
  · have hconv := conv_lit w [192 + r / 64, 128 + r % 64] 2 rfl (by omega)
    have E := Lib.hid (encS_nums r _ (Lib.encodeRuneZ_two (by omega) (by omega)))
    dsimp only [List.map] at hconv
    go_enter Try.func84, Try.ntmps84
    go_wp2_with fail
    go_ret
    exact ⟨(show Ending.returned (Value.string _) = .returned (Value.string _) by rw [E.out]), below_one _ _⟩
  · have hconv := conv_lit w [224 + r / 4096, 128 + r / 64 % 64, 128 + r % 64] 3 rfl (by omega)
    have E := Lib.hid (encS_nums r _ (Lib.encodeRuneZ_three (by omega)))
    dsimp only [List.map] at hconv
    go_enter Try.func84, Try.ntmps84
    go_wp2_with fail
    go_ret
    exact ⟨(show Ending.returned (Value.string _) = .returned (Value.string _) by rw [E.out]), below_one _ _⟩
  · have hconv := conv_lit w [240 + r / 262144, 128 + r / 4096 % 64, 128 + r / 64 % 64, 128 + r % 64] 4 rfl (by omega)
    have E := Lib.hid (encS_nums r _ (Lib.encodeRuneZ_four (by omega) (by omega)))
    dsimp only [List.map] at hconv
    go_enter Try.func84, Try.ntmps84
    go_wp2_with fail
    go_ret
    exact ⟨(show Ending.returned (Value.string _) = .returned (Value.string _) by rw [E.out]), below_one _ _⟩
set_option maxHeartbeats 1600000 in
theorem rtext_any (a : Option Addr) (n cap : Nat) (zs : List Int) (w : World) (hh : HoldsI .i32 w a n zs) (hn : n ≤ 1048576) :
    Calls Try.prog 69 #[.slice a n cap] w fun e w' => e = .returned (.tuple #[.string (textZ zs), .bool (decide (allG zs))]) ∧ Below w.heap.size w w' := by
  have hl := hh.len
  go_enter Try.func69, Try.ntmps69
  go_wp2_with fail
  go_loopw [4, 5] (fun sv cv wr => ∃ j : Nat, j ≤ n ∧ cv = .int .i64 j ∧ sv = .string (encB (zs.take j)) ∧ Hid (allG (zs.take j)) ∧ Hid (Below w.heap.size w wr)) (fun _ cv _ => n - (intOf cv).toNat)
  case atStart =>
    refine ⟨0, by omega, rfl, rfl, Lib.hid (by simp [allG]), Lib.hid (Below.refl _ _)⟩
  case round =>
    obtain ⟨j, hj, rfl, rfl, hG, hB⟩ := hrel
    have hs := hB.out.size
    by_cases hlt : j < n
    · obtain ⟨b, o, rfl, hc⟩ := (hh.below hB.out).at (by omega)
      have H2 := Lib.hid (fun w2 (hb : Below wr.heap.size wr w2) => ((hh.below hB.out).below hb))
      have e1 := hc j hlt
      have hmem := getD_mem' zs j (by omega)
      have htk := take_succ_getD zs 0 j (by omega)
      obtain ⟨x, hx⟩ : ∃ x, zs.getD j 0 = x := ⟨_, rfl⟩
      rw [hx] at e1 hmem htk
      have HM := Lib.hid hmem; have HT := Lib.hid htk
      clear hx hmem htk hc
      have hgd := fun w => good_any x w
      by_cases hg : goodP x
      · rw [decide_eq_true hg] at hgd
        have HG := Lib.hid hg; have HD := Lib.hid hgd
        clear hg hgd
        have hsz : (encB (zs.take j)).size ≤ 4194304 := by
          have h1 := encB_size (zs.take j)
          have h2 : (zs.take j).length ≤ j := List.length_take_le _ _
          omega
        obtain ⟨S, hS⟩ : ∃ S, encB (zs.take j) = S := ⟨_, rfl⟩
        rw [hS] at hsz ⊢
        have HS := Lib.hid hS
        clear hS
        go_wp2_with fail
        refine (HD.out _).mono ?_
        rintro e w' ⟨rfl, rfl⟩
        go_wp2_with fail
        refine (bytes_any x _ HG.out).mono ?_
        rintro e w2 ⟨rfl, hb2⟩
        have hes : S ++ encS x = encB (zs.take (j + 1)) := by rw [← HS.out, encB_snoc, HT.out]
        have hsz2 : (encS x).size ≤ 4 := by
          have h1 := encode_le x
          simpa [encS, ByteArray.size] using h1
        go_wp2_with fail
        go_roundw
        case rel => exact ⟨j + 1, by omega, by go_num, rfl, Lib.hid (by rw [HT.out]; intro z hz; rcases List.mem_append.1 hz with hz | hz; exact hG.out z hz; simp at hz; rw [hz]; exact HG.out), Lib.hid (hB.out.trans (hb2.mono hs))⟩
        case measure => simp [intOf]; omega
      · rw [decide_eq_false hg] at hgd
        have hb2 := textZ_bad x HM.out hg
        have HD := Lib.hid hgd; have HB := Lib.hid hb2
        clear hg hgd hb2
        go_wp2_with fail
        refine (HD.out _).mono ?_
        rintro e w' ⟨rfl, rfl⟩
        go_wp2_with fail
        go_ret2
        exact ⟨by rw [HB.out.1, HB.out.2]; rfl, hB.out⟩
    · have hjn : zs.take j = zs := List.take_of_length_le (by omega)
      have hg := textZ_good (show allG zs by have := hG.out; rw [hjn] at this; exact this)
      have HJ := Lib.hid hjn; have HG := Lib.hid hg
      clear hjn hg
      go_wp2_with fail
      go_ret2
      exact ⟨by rw [HG.out.1, HG.out.2, HJ.out]; rfl, hB.out⟩
set_option maxHeartbeats 400000 in
theorem same8_any (a1 a2 : Option Addr) (n1 c1 n2 c2 : Nat) (z1 z2 : List Tx) (w : World) (h1 : HoldsT w a1 n1 z1) (h2 : HoldsT w a2 n2 z2) (hl1 : n1 ≤ 4611686018427387904) (hl2 : n2 ≤ 4611686018427387904) :
    Calls Try.prog 56 #[.slice a1 n1 c1, .slice a2 n2 c2] w fun e w' => e = .returned (.bool (decide (z1 = z2))) ∧ ∃ m, w' = w.drewN m := by
  have g1 := h1.len
  have g2 := h2.len
  have g1' := fun h0 => h1.at h0
  have g2' := fun h0 => h2.at h0
  clear h1 h2
  by_cases hn : n1 = n2
  · subst hn
    rcases Nat.eq_zero_or_pos n1 with h0 | h0
    · subst h0
      clear g1' g2'
      obtain rfl := List.eq_nil_of_length_eq_zero g1
      obtain rfl := List.eq_nil_of_length_eq_zero g2
      go_enter Try.func56, Try.ntmps56
      go_wp2
      go_loop [5] (fun i => i = .int .i64 0) (fun _ => 0)
      case atStart => rfl
      case round =>
        obtain rfl := hrel
        go_wp2
        go_ret
        exact ⟨rfl, 0, rfl⟩
    · obtain ⟨b1, o1, rfl, k1⟩ := g1' h0
      obtain ⟨b2, o2, rfl, k2⟩ := g2' h0
      clear g1' g2'
      have G1 := Lib.hid g1; have G2 := Lib.hid g2; have K1 := Lib.hid k1; have K2 := Lib.hid k2
      clear g1 g2 k1 k2
      go_enter Try.func56, Try.ntmps56
      go_wp2
      go_loopw [5] (fun i wr => ∃ k m : Nat, k ≤ n1 ∧ i = .int .i64 k ∧ z1.take k = z2.take k ∧ wr = w.drewN m) (fun i _ => n1 - (intOf i).toNat)
      case atStart => exact ⟨0, 0, by omega, rfl, rfl, rfl⟩
      case round =>
        obtain ⟨k, m, hk, rfl, he, rfl⟩ := hrel
        have HE := Lib.hid he
        clear he
        by_cases hlt : k < n1
        · have e1 := K1.out k hlt
          have e2 := K2.out k hlt
          obtain ⟨x, hx⟩ : ∃ x, z1.getD k ByteArray.empty = x := ⟨_, rfl⟩
          obtain ⟨y, hy⟩ : ∃ y, z2.getD k ByteArray.empty = y := ⟨_, rfl⟩
          rw [hx] at e1; rw [hy] at e2
          have HX := Lib.hid hx; have HY := Lib.hid hy
          clear hx hy
          by_cases hxy : x = y
          · subst hxy
            have hb := str_same x
            go_wp2
            go_quiet (fail)
            go_wp2
            go_roundw
            case rel => exact ⟨k + 1, _, by omega, by go_num, by rw [take_succ_getD z1 ByteArray.empty k (by rw [G1.out]; exact hlt), take_succ_getD z2 ByteArray.empty k (by rw [G2.out]; exact hlt), HE.out, HX.out, HY.out], rfl⟩
            case measure => simp [intOf]; omega
          · have hb := str_other hxy
            have HXY := Lib.hid hxy
            clear hxy
            go_wp2
            go_quiet (fail)
            go_wp2
            go_ret
            exact ⟨ret_bool (by symm; rw [decide_eq_false_iff_not]; exact take_ne_of_getD ByteArray.empty k (by rw [HX.out, HY.out]; exact HXY.out)), _, World.drewN_drewN _ _ _⟩
        · have hkn : k = n1 := by omega
          have HK := Lib.hid hkn
          clear hkn
          go_wp2
          go_ret
          exact ⟨ret_bool (by symm; rw [decide_eq_true_iff]; exact take_eq_all (n := k) HE.out (by rw [G1.out, HK.out]) (by rw [G2.out, HK.out])), _, rfl⟩
  · have hb : ((n1 : Int) != (n2 : Int)) = true := by simp; omega
    clear g1' g2'
    have HN := Lib.hid hn; have G1 := Lib.hid g1; have G2 := Lib.hid g2
    clear hn g1 g2
    go_enter Try.func56, Try.ntmps56
    go_wp2
    go_ret
    exact ⟨ret_bool (by symm; rw [decide_eq_false_iff_not]; intro e; exact HN.out (by rw [← G1.out, ← G2.out, e])), 0, rfl⟩
/-- a text's first rune -/
def headS (s : Tx) : Tx := textZ [(labS s : Int)]
set_option maxHeartbeats 1600000 in
theorem rprefix_one (s : ByteArray) (w : World) (hs : s.size ≤ 1048576) (hg : 0 ≤ lenS s) (h0 : 0 < s.size) :
    Calls Try.prog 58 #[.string s, .int .i64 1] w fun e w' => e = .returned (.string (headS s)) ∧ Below w.heap.size w w' := by
  have hr := r1runesq_any s w hs
  have hle := runesS_le s
  have hrs := rst_runes hg h0
  obtain ⟨P, hP⟩ : ∃ P, runesS s = P := ⟨_, rfl⟩
  unfold RunesQ at hr
  rw [hP] at hr hrs hle
  obtain ⟨k, hk⟩ : ∃ k, P.length = k := ⟨_, rfl⟩
  rw [hk] at hr hle
  have hk1 : 1 ≤ k := by rw [← hk, hrs]; simp
  have hp0 : P.getD 0 0 = labS s := by rw [hrs]; rfl
  have HR := Lib.hid hr; have HP0 := Lib.hid hp0; have HK := Lib.hid hk
  have hsz : k ≤ 1048576 := by omega
  have HG := Lib.hid hg
  clear hr hp0 hk hrs hP hg
  go_enter Try.func58, Try.ntmps58
  go_wp2_with fail
  refine HR.out.mono ?_
  rintro e w1 (⟨h1, a, c, rfl, h2, h3⟩ | ⟨h1, rfl, h3⟩)
  · have H3 := Lib.hid h3
    have hcc := (owns_none h2).2
    have HI : HoldsI .i32 w1 a k (intsN P) := by rw [← HK.out]; exact holdsI_own (by rw [HK.out]; exact h2)
    obtain ⟨b, o, rfl, hc⟩ := HI.at (by omega)
    have ex : (intsN P).getD 0 0 = (labS s : Int) := by
      rw [← HP0.out]
      have := HK.out
      simp [intsN, List.getD_eq_getElem?_getD, List.getElem?_eq_getElem (show 0 < P.length by omega)]
    have HT := Lib.hid (fun w2 => fun (hb : Below w1.heap.size w1 w2) (cc : Nat) => (rtext_any (some ⟨b, o, none⟩) 1 cc [(labS s : Int)] w2 (HoldsI.below (w := w1) (by
      refine ⟨rfl, fun _ => ⟨b, o, rfl, fun i hi => ?_⟩⟩
      obtain rfl : i = 0 := by omega
      have := hc 0 (by omega)
      rw [ex] at this
      exact this) hb) (by omega)))
    have HIH := Lib.hid HI
    clear h1 h2 h3 hc HI
    by_cases hk2 : 1 < k
    · have d1 : decide ((1 : Int) < (k : Int)) = true := decide_eq_true (by omega)
      have j1 : (1 : Int) ≤ (k : Int) := by omega
      go_wp2_with fail
      refine (HT.out _ (Below.refl _ _) _).mono ?_
      rintro e w2 ⟨rfl, hb⟩
      have B2 := Lib.hid (H3.out.trans (hb.mono H3.out.size))
      clear hb
      go_wp2_with fail
      go_ret
      exact ⟨rfl, B2.out⟩
    · obtain rfl : k = 1 := by omega
      go_wp2_with fail
      refine (HT.out _ (Below.refl _ _) _).mono ?_
      rintro e w2 ⟨rfl, hb⟩
      have B2 := Lib.hid (H3.out.trans (hb.mono H3.out.size))
      clear hb
      go_wp2_with fail
      go_ret
      exact ⟨rfl, B2.out⟩
  · exact absurd HG.out (by omega)
end Go.Proofs.Ytmmliepkcgdnlaa
/- the document's graph in memory -/
namespace Go.Proofs.Ytmmliepkcgdnlaa
open Go.RowKit
set_option linter.unusedVariables false
set_option maxRecDepth 20000
/-- a node, and where its rests and edges lie -/
structure NR where
  rests : List Tx
  ra : Option Addr
  rc : Nat
  es : List EdP
  ea : Option Addr
  ec : Nat
def nr0 : NR := ⟨[], none, 0, [], none, 0⟩
def nrV : List NR → List Value
  | [] => []
  | x :: l => .slice x.ra x.rests.length x.rc :: .slice x.ea x.es.length x.ec :: nrV l
theorem nrV_len : ∀ l : List NR, (nrV l).length = l.length * 2
  | [] => rfl
  | x :: l => by simp [nrV, nrV_len l]; omega
theorem nrV_app : ∀ k l : List NR, nrV (k ++ l) = nrV k ++ nrV l
  | [], l => rfl
  | x :: k, l => by simp [nrV, nrV_app k l]
theorem nrV_at : ∀ (l : List NR) (i : Nat), i < l.length → (nrV l)[i * 2]? = some (.slice (l.getD i nr0).ra (l.getD i nr0).rests.length (l.getD i nr0).rc) ∧ (nrV l)[i * 2 + 1]? = some (.slice (l.getD i nr0).ea (l.getD i nr0).es.length (l.getD i nr0).ec)
  | [], i, h => by simp at h
  | x :: l, 0, _ => by simp [nrV]
  | x :: l, i + 1, h => by
    have ih := nrV_at l i (by simpa using h)
    have e1 : (i + 1) * 2 = i * 2 + 1 + 1 := by omega
    rw [e1]
    simpa [nrV] using ih
def withE (x : NR) (es : List EdP) (ea : Option Addr) (ec : Nat) : NR := ⟨x.rests, x.ra, x.rc, es, ea, ec⟩
theorem nrV_set : ∀ (L : List NR) (i : Nat) (es : List EdP) (ea : Option Addr) (ec : Nat), i < L.length → (nrV L).set (i * 2 + 1) (.slice ea es.length ec) = nrV (L.set i (withE (L.getD i nr0) es ea ec))
  | [], i, _, _, _, h => by simp at h
  | x :: l, 0, es, ea, ec, _ => by simp [nrV, withE]
  | x :: l, i + 1, es, ea, ec, h => by
    have ih := nrV_set l i es ea ec (by simpa using h)
    have e1 : (i + 1) * 2 + 1 = i * 2 + 1 + 1 + 1 := by omega
    rw [e1]
    simp only [nrV, List.set_cons_succ]
    rw [ih]
    simp
theorem mem_nr {L : List NR} {i : Nat} (h : i < L.length) : L.getD i nr0 ∈ L := by rw [List.getD_eq_getElem?_getD, List.getElem?_eq_getElem h]; simp
def EdF (w : World) (F : Nat → Prop) (x : NR) : Prop := HoldsEd w x.ea x.es.length x.es ∧ ((x.ea = none → x.es.length = 0 ∧ x.ec = 0) ∧ x.es.length ≤ x.ec) ∧ ∀ fb fo, x.ea = some ⟨fb, fo, none⟩ → F fb
def ReF (w : World) (F : Nat → Prop) (x : NR) : Prop := HoldsT w x.ra x.rests.length x.rests ∧ x.rests.length ≤ 1000000 ∧ (0 < x.rests.length → ∀ fb fo, x.ra = some ⟨fb, fo, none⟩ → F fb)
/-- block g is the document's graph of these nodes; F: what the nodes' slices lie in, S: what may turn -/
structure RMid (w : World) (g : Nat) (na : Option Addr) (nc : Nat) (NL : List NR) (S F : Nat → Prop) : Prop where
  c : w.cell? ⟨g, 0, none⟩ = some (.slice na NL.length nc)
  f : ∀ i, w.frozen? ⟨g, i, none⟩ = false
  o : w.ownsRow 0 75 2 (.slice na NL.length nc) NL.length (nrV NL)
  e : ∀ x ∈ NL, EdF w F x
  r : ∀ x ∈ NL, ReF w F x
  sg : S g
  sn : ∀ q, na = some ⟨q, 0, none⟩ → S q ∧ q ≠ g
  lt : ∀ k, S k → k < w.heap.size
  fl : ∀ k, F k → ¬ S k ∧ k < w.heap.size
theorem holdsEd_turn {w w' : World} {a : Option Addr} {n : Nat} {ks : List EdP} {T : Nat → Prop} (h : HoldsEd w a n ks) (t : Turn T w w') (hF : ∀ fb fo, a = some ⟨fb, fo, none⟩ → ¬ T fb ∧ fb < w.heap.size) : HoldsEd w' a n ks :=
  holdsEd_blocks h (fun fb fo e => t.block fb (hF fb fo e).2 (hF fb fo e).1)
theorem RMid.turn {w w' : World} {g : Nat} {na : Option Addr} {nc : Nat} {NL : List NR} {S F T : Nat → Prop} (h : RMid w g na nc NL S F) (t : Turn T w w') (hT : ∀ k, T k → ¬ S k ∧ ¬ F k) : RMid w' g na nc NL S F := by
  have lg := h.lt g h.sg
  have ng : ¬ T g := fun e => (hT g e).1 h.sg
  exact ⟨(t.cell lg ng).trans h.c, fun i => (t.frozen lg ng).trans (h.f i), gowns_block h.o (fun q hq => t.block q (h.lt q (h.sn q hq).1) (fun e => (hT q e).1 (h.sn q hq).1)),
    fun x hx => ⟨holdsEd_turn (h.e x hx).1 t (fun fb fo e => ⟨fun e2 => (hT fb e2).2 ((h.e x hx).2.2 fb fo e), (h.fl fb ((h.e x hx).2.2 fb fo e)).2⟩), (h.e x hx).2⟩,
    fun x hx => ⟨holdsT_turn (h.r x hx).1 t (fun h0 fb fo e e2 => (hT fb e2).2 ((h.r x hx).2.2 h0 fb fo e)), (h.r x hx).2⟩,
    h.sg, h.sn, fun k hk => Nat.lt_of_lt_of_le (h.lt k hk) t.size, fun k hk => ⟨(h.fl k hk).1, Nat.lt_of_lt_of_le (h.fl k hk).2 t.size⟩⟩
theorem RMid.at {w : World} {g : Nat} {na : Option Addr} {nc : Nat} {NL : List NR} {S F : Nat → Prop} (h : RMid w g na nc NL S F) {i : Nat} (hi : i < NL.length) : ∃ q, na = some ⟨q, 0, none⟩ ∧ w.cell? ⟨q, i * 2, none⟩ = some (.slice (NL.getD i nr0).ra (NL.getD i nr0).rests.length (NL.getD i nr0).rc) ∧ w.cell? ⟨q, i * 2 + 1, none⟩ = some (.slice (NL.getD i nr0).ea (NL.getD i nr0).es.length (NL.getD i nr0).ec) := by
  have o := h.o
  obtain ⟨q, cap', hv⟩ := Joins.ownsRow_form o (by omega)
  simp only [Value.slice.injEq] at hv
  obtain ⟨hv, -, -⟩ := hv
  subst hv
  obtain ⟨v0, v1⟩ := nrV_at NL i hi
  exact ⟨q, rfl, (o.cellAt (i * 2) (by omega)).trans v0, (o.cellAt (i * 2 + 1) (by omega)).trans v1⟩
/-- one node more -/
theorem RMid.grow {w w6 : World} {g q cap : Nat} {na : Option Addr} {nc : Nat} {NL : List NR} {S F : Nat → Prop} {o : Obj} {s : List Tx} {ra : Option Addr} {rc : Nat} (h : RMid w g na nc NL S F)
    (hs : HoldsT w ra s.length s) (hsl : s.length ≤ 1000000) (hsF : 0 < s.length → ∀ fb fo, ra = some ⟨fb, fo, none⟩ → F fb)
    (own : w6.ownsRow 0 75 2 (.slice (some ⟨q, 0, none⟩) (NL.length + 1) cap) (NL.length + 1) (nrV NL ++ [.slice ra s.length rc, .slice none 0 0]))
    (hg : (w.alloc o).grownBy w6 (Value.slice na NL.length nc).ownBlock) (hat : (Value.slice na NL.length nc).ownBlock = some q ∨ q = (w.alloc o).heap.size) (hlt : q < w6.heap.size) :
    RMid (w6.setCell ⟨g, 0, none⟩ (.slice (some ⟨q, 0, none⟩) (NL.length + 1) cap)) g (some ⟨q, 0, none⟩) cap (NL ++ [⟨s, ra, rc, [], none, 0⟩]) (fun k => S k ∨ k = q) F ∧ Turn S w (w6.setCell ⟨g, 0, none⟩ (.slice (some ⟨q, 0, none⟩) (NL.length + 1) cap)) ∧ (S q ∨ w.heap.size ≤ q) := by
  have hza : (w.alloc o).heap.size = w.heap.size + 1 := by simp
  have hz6 := hg.size
  have hlb := h.lt g h.sg
  have old : ∀ k, k < w.heap.size → (∀ r, na = some ⟨r, 0, none⟩ → k ≠ r) → w6.heap[k]? = w.heap[k]? := fun k hk hn =>
    (hg.block k (by omega) (fun e => hn k (gown_at h.o e) rfl)).trans (Below.heap_alloc _ _ _ (by omega))
  have ob := old g hlb (fun r e hq => (h.sn r e).2 hq.symm)
  have hwhere : na = some ⟨q, 0, none⟩ ∨ w.heap.size ≤ q := by
    rcases hat with e | e
    · exact Or.inl (gown_at h.o e.symm)
    · exact Or.inr (by omega)
  have gq : q ≠ g := by
    rcases hwhere with e | e
    · exact (h.sn q e).2
    · omega
  have sz : (w6.setCell ⟨g, 0, none⟩ (.slice (some ⟨q, 0, none⟩) (NL.length + 1) cap)).heap.size = w6.heap.size := by simp [World.setCell]
  have t : Turn (fun k => k = g ∨ na = some ⟨k, 0, none⟩) w (w6.setCell ⟨g, 0, none⟩ (.slice (some ⟨q, 0, none⟩) (NL.length + 1) cap)) := by
    refine Turn.trans ?_ (Turn.setCell (Or.inl rfl))
    exact ⟨hg.os, hg.tape, hg.output, by omega, fun k hk hn => old k hk (fun r e h2 => hn (Or.inr (by rw [h2]; exact e)))⟩
  have tS : ∀ k, (k = g ∨ na = some ⟨k, 0, none⟩) → S k := fun k hk => by
    rcases hk with rfl | e
    · exact h.sg
    · exact (h.sn k e).1
  have hlen : (NL ++ [(⟨s, ra, rc, [], none, 0⟩ : NR)]).length = NL.length + 1 := by simp
  have hkv : nrV (NL ++ [⟨s, ra, rc, [], none, 0⟩]) = nrV NL ++ [.slice ra s.length rc, .slice none 0 0] := by rw [nrV_app]; rfl
  refine ⟨⟨?_, fun i => ?_, ?_, fun x hx => ?_, fun x hx => ?_, Or.inl h.sg, fun r hr => ?_, fun k hk => ?_, fun k hk => ⟨fun e => ?_, ?_⟩⟩, t.mono tS, ?_⟩
  · rw [hlen]; exact cset_at ((World.cell?_of_block (w := w) ob).trans h.c)
  · rw [fset_any, World.frozen?_of_block (w := w) ob]; exact h.f i
  · rw [hlen, hkv]
    exact gowns_block own (fun r hr => by injection hr with hr; injection hr with hr; subst hr; exact gheap_far gq)
  · rcases List.mem_append.1 hx with hx | hx
    · obtain ⟨y1, y2, y3⟩ := h.e x hx
      exact ⟨holdsEd_turn y1 t (fun fb fo e => ⟨fun e2 => (h.fl fb (y3 fb fo e)).1 (tS fb e2), (h.fl fb (y3 fb fo e)).2⟩), y2, y3⟩
    · simp only [List.mem_singleton] at hx
      subst hx
      exact ⟨HoldsEd.nil _ _, ⟨fun _ => ⟨rfl, rfl⟩, Nat.le_refl _⟩, fun fb fo e => by cases e⟩
  · rcases List.mem_append.1 hx with hx | hx
    · obtain ⟨y1, y2⟩ := h.r x hx
      exact ⟨holdsT_turn y1 t (fun h0 fb fo e e2 => (h.fl fb (y2.2 h0 fb fo e)).1 (tS fb e2)), y2⟩
    · simp only [List.mem_singleton] at hx
      subst hx
      exact ⟨holdsT_turn hs t (fun h0 fb fo e e2 => (h.fl fb (hsF h0 fb fo e)).1 (tS fb e2)), hsl, hsF⟩
  · injection hr with hr; injection hr with hr; subst hr
    exact ⟨Or.inr rfl, gq⟩
  · rw [sz]
    rcases hk with hk | hk
    · have := h.lt k hk; omega
    · rw [hk]; exact hlt
  · rcases e with e | e
    · exact (h.fl k hk).1 e
    · rcases hwhere with e2 | e2
      · exact (h.fl k hk).1 (by rw [e]; exact (h.sn q e2).1)
      · have := (h.fl k hk).2; omega
  · rw [sz]; have := (h.fl k hk).2; omega
  · rcases hwhere with e | e
    · exact Or.inl (h.sn q e).1
    · exact Or.inr e
/-- a node's edges are laid in their place -/
theorem RMid.put {w : World} {g q nc : Nat} {NL : List NR} {S F : Nat → Prop} (h : RMid w g (some ⟨q, 0, none⟩) nc NL S F) (i : Nat) (hi : i < NL.length) (es : List EdP) (ea : Option Addr) (ec : Nat) (h1 : HoldsEd w ea es.length es) (h3 : (ea = none → es.length = 0 ∧ ec = 0) ∧ es.length ≤ ec) (h4 : ∀ fb fo, ea = some ⟨fb, fo, none⟩ → ¬ S fb ∧ fb < w.heap.size) :
    RMid (w.setCell ⟨q, i * 2 + 1, none⟩ (.slice ea es.length ec)) g (some ⟨q, 0, none⟩) nc (NL.set i (withE (NL.getD i nr0) es ea ec)) S (fun k => F k ∨ ∃ fo, ea = some ⟨k, fo, none⟩) ∧ Turn (fun k => k = q) w (w.setCell ⟨q, i * 2 + 1, none⟩ (.slice ea es.length ec)) := by
  obtain ⟨s1, s2⟩ := h.sn q rfl
  have t : Turn (fun k => k = q) w (w.setCell ⟨q, i * 2 + 1, none⟩ (.slice ea es.length ec)) := Turn.setCell rfl
  have sz : (w.setCell ⟨q, i * 2 + 1, none⟩ (.slice ea es.length ec)).heap.size = w.heap.size := by simp [World.setCell]
  have own := (h.o.stored (i * 2 + 1) (.slice ea es.length ec)).1
  rw [nrV_set NL i es ea ec hi] at own
  have lg := h.lt g h.sg
  have ng : ¬ g = q := fun e => s2 e.symm
  have hE : ∀ x ∈ NL, EdF (w.setCell ⟨q, i * 2 + 1, none⟩ (.slice ea es.length ec)) (fun k => F k ∨ ∃ fo, ea = some ⟨k, fo, none⟩) x := fun x hx => by
    obtain ⟨y1, y2, y3⟩ := h.e x hx
    exact ⟨holdsEd_turn y1 t (fun fb fo e => ⟨fun e2 => (h.fl fb (y3 fb fo e)).1 (by rw [e2]; exact s1), (h.fl fb (y3 fb fo e)).2⟩), y2, fun fb fo e => Or.inl (y3 fb fo e)⟩
  have hR : ∀ x ∈ NL, ReF (w.setCell ⟨q, i * 2 + 1, none⟩ (.slice ea es.length ec)) (fun k => F k ∨ ∃ fo, ea = some ⟨k, fo, none⟩) x := fun x hx => by
    obtain ⟨y1, y2⟩ := h.r x hx
    exact ⟨holdsT_turn y1 t (fun h0 fb fo e e2 => (h.fl fb (y2.2 h0 fb fo e)).1 (by rw [e2]; exact s1)), y2.1, fun h0 fb fo e => Or.inl (y2.2 h0 fb fo e)⟩
  refine ⟨⟨?_, fun k => (t.frozen lg ng).trans (h.f k), ?_, fun x hx => ?_, fun x hx => ?_, h.sg, h.sn, fun k hk => by rw [sz]; exact h.lt k hk, fun k hk => ?_⟩, t⟩
  · rw [List.length_set]; exact (t.cell lg ng).trans h.c
  · rw [List.length_set]; exact own
  · rcases List.mem_or_eq_of_mem_set hx with hx | rfl
    · exact hE x hx
    · exact ⟨holdsEd_turn h1 t (fun fb fo e => ⟨fun e2 => (h4 fb fo e).1 (by rw [e2]; exact s1), (h4 fb fo e).2⟩), h3, fun fb fo e => Or.inr ⟨fo, e⟩⟩
  · rcases List.mem_or_eq_of_mem_set hx with hx | rfl
    · exact hR x hx
    · exact hR (NL.getD i nr0) (mem_nr hi)
  · rw [sz]
    rcases hk with hk | ⟨fo, hk⟩
    · exact h.fl k hk
    · exact h4 k fo hk
theorem RMid.len {w : World} {g : Nat} {na : Option Addr} {nc : Nat} {NL : List NR} {S F : Nat → Prop} {st : List GN} (h : RMid w g na nc NL S F) (eq : NL.map (fun x => (x.rests, x.es)) = st.map (fun x => (x.rests, x.edges))) : NL.length = st.length ∧ ∀ k, k < st.length → (NL.getD k nr0).rests = (st.getD k gn0).rests ∧ (NL.getD k nr0).es = (st.getD k gn0).edges := by
  have hl : NL.length = st.length := by have := congrArg List.length eq; simpa using this
  refine ⟨hl, fun k hk => ?_⟩
  have h2 := congrArg (fun l => l[k]?) eq
  simp only [List.getElem?_map, List.getElem?_eq_getElem (show k < NL.length by omega), List.getElem?_eq_getElem hk, Option.map_some] at h2
  injection h2 with h2
  rw [List.getD_eq_getElem?_getD, List.getD_eq_getElem?_getD, List.getElem?_eq_getElem (show k < NL.length by omega), List.getElem?_eq_getElem hk]
  injection h2 with h3 h4
  exact ⟨h3, h4⟩
/-- more is known to stay -/
theorem RMid.wide {w : World} {g : Nat} {na : Option Addr} {nc : Nat} {NL : List NR} {S F G : Nat → Prop} (h : RMid w g na nc NL S F) (hF : ∀ k, F k → G k) (hG : ∀ k, G k → ¬ S k ∧ k < w.heap.size) : RMid w g na nc NL S G :=
  ⟨h.c, h.f, h.o, fun x hx => ⟨(h.e x hx).1, (h.e x hx).2.1, fun fb fo e => hF fb ((h.e x hx).2.2 fb fo e)⟩, fun x hx => ⟨(h.r x hx).1, (h.r x hx).2.1, fun h0 fb fo e => hF fb ((h.r x hx).2.2 h0 fb fo e)⟩, h.sg, h.sn, h.lt, hG⟩
def nrP (x : NR) : List Tx × List EdP := (x.rests, x.es)
def grP (x : GN) : List Tx × List EdP := (x.rests, x.edges)
def RQ (g : Nat) (st : List GN) (w : World) (S F : Nat → Prop) : Prop := ∃ na nc NL, RMid w g na nc NL S F ∧ NL.map nrP = st.map grP
theorem RQ.turn {g : Nat} {st : List GN} {w w' : World} {S F T : Nat → Prop} (h : RQ g st w S F) (t : Turn T w w') (hT : ∀ k, T k → ¬ S k ∧ ¬ F k) : RQ g st w' S F := by
  obtain ⟨na, nc, NL, m, e⟩ := h; exact ⟨na, nc, NL, m.turn t hT, e⟩
theorem RQ.below {g : Nat} {st : List GN} {w w' : World} {S F : Nat → Prop} (h : RQ g st w S F) (hb : Below w.heap.size w w') : RQ g st w' S F :=
  h.turn (T := fun _ => False) (Turn.of_below hb) (fun k hk => hk.elim)
theorem RQ.lt {g : Nat} {st : List GN} {w : World} {S F : Nat → Prop} (h : RQ g st w S F) : ∀ k, S k → k < w.heap.size := by obtain ⟨na, nc, NL, m, e⟩ := h; exact m.lt
theorem RQ.fl {g : Nat} {st : List GN} {w : World} {S F : Nat → Prop} (h : RQ g st w S F) : ∀ k, F k → ¬ S k ∧ k < w.heap.size := by obtain ⟨na, nc, NL, m, e⟩ := h; exact m.fl
theorem RQ.wide {g : Nat} {st : List GN} {w : World} {S F G : Nat → Prop} (h : RQ g st w S F) (hF : ∀ k, F k → G k) (hG : ∀ k, G k → ¬ S k ∧ k < w.heap.size) : RQ g st w S G := by
  obtain ⟨na, nc, NL, m, e⟩ := h; exact ⟨na, nc, NL, m.wide hF hG, e⟩
/-- what adding a list does -/
def PR (g : Nat) (st : List GN) (w : World) (S F : Nat → Prop) (w' : World) : Prop := ∃ S' F', RQ g st w' S' F' ∧ (∀ k, S' k → S k ∨ w.heap.size ≤ k) ∧ (∀ k, F' k → F k ∨ w.heap.size ≤ k) ∧ (∀ k, F k → F' k) ∧ Turn S w w'
/-- what the loop goes by -/
structure RK (g : Nat) (W : World) (S F : Nat → Prop) (st1 : List GN) (ea : Option Addr) (ec : Nat) (es : List EdP) (S1 F1 : Nat → Prop) (w : World) : Prop where
  q : RQ g st1 w S1 F1
  sub : ∀ k, S1 k → S k ∨ W.heap.size ≤ k
  fsub : ∀ k, F1 k → F k ∨ W.heap.size ≤ k
  fup : ∀ k, F k → F1 k
  t : Turn S W w
  o : w.ownsRow W.heap.size 61 2 (.slice ea es.length ec) es.length (edsV es)
  ne : ∀ k, ea = some ⟨k, 0, none⟩ → ¬ S1 k ∧ ¬ F1 k
theorem RK.more {g : Nat} {W : World} {S F : Nat → Prop} {st1 : List GN} {ea : Option Addr} {ec : Nat} {es : List EdP} {S1 F1 : Nat → Prop} {w w' : World} (h : RK g W S F st1 ea ec es S1 F1 w) (hb : Below w.heap.size w w') : RK g W S F st1 ea ec es S1 F1 w' :=
  ⟨h.q.below hb, h.sub, h.fsub, h.fup, h.t.trans (Turn.of_below hb), owns_below h.o hb, h.ne⟩
/-- a block of rests more -/
theorem RK.rows {g : Nat} {W : World} {S F : Nat → Prop} {st1 : List GN} {ea : Option Addr} {ec : Nat} {es : List EdP} {S1 F1 : Nat → Prop} {w : World} (h : RK g W S F st1 ea ec es S1 F1 w) (L : Nat → Prop) (hL : ∀ k, L k → ¬ S1 k ∧ k < w.heap.size ∧ W.heap.size ≤ k ∧ ea ≠ some ⟨k, 0, none⟩) : RK g W S F st1 ea ec es S1 (fun k => F1 k ∨ L k) w :=
  ⟨h.q.wide (fun k hk => Or.inl hk) (fun k hk => hk.elim (h.q.fl k) (fun x => ⟨(hL k x).1, (hL k x).2.1⟩)), h.sub, fun k hk => hk.elim (h.fsub k) (fun x => Or.inr (hL k x).2.2.1), fun k hk => Or.inl (h.fup k hk), h.t, h.o, fun k e => ⟨(h.ne k e).1, fun hk => hk.elim (h.ne k e).2 (fun x => (hL k x).2.2.2 e)⟩⟩
/-- behind a call that adds nodes -/
theorem RK.step {g : Nat} {W : World} {S F : Nat → Prop} {st1 st2 : List GN} {ea : Option Addr} {ec : Nat} {es : List EdP} {S1 F1 : Nat → Prop} {w w' : World} (h : RK g W S F st1 ea ec es S1 F1 w) (k : PR g st2 w S1 F1 w') : ∃ S2 F2, RK g W S F st2 ea ec es S2 F2 w' := by
  obtain ⟨S2, F2, q2, s2, f2, u2, t2⟩ := k
  have hz := h.t.size
  refine ⟨S2, F2, q2, fun k hk => ?_, fun k hk => ?_, fun k hk => u2 k (h.fup k hk), h.t.trans' t2 (fun i hi => h.sub i hi), gowns_block h.o (fun r hr => t2.block r (h.o.lt r (by rw [hr]; rfl)).2 (h.ne r hr).1), fun k hk => ⟨fun hk2 => ?_, fun hk2 => ?_⟩⟩
  · rcases s2 k hk with x | x
    · exact h.sub k x
    · exact Or.inr (by omega)
  · rcases f2 k hk with x | x
    · exact h.fsub k x
    · exact Or.inr (by omega)
  · rcases s2 k hk2 with x | x
    · exact (h.ne k hk).1 x
    · have := (h.o.lt k (by rw [hk]; rfl)).2; omega
  · rcases f2 k hk2 with x | x
    · exact (h.ne k hk).2 x
    · have := (h.o.lt k (by rw [hk]; rfl)).2; omega
/-- behind an edge more -/
theorem RK.edge {g : Nat} {W : World} {S F : Nat → Prop} {q cap : Nat} {st1 : List GN} {ea : Option Addr} {ec : Nat} {es : List EdP} {S1 F1 : Nat → Prop} {w w6 : World} {o : Obj} {x : EdP} (h : RK g W S F st1 ea ec es S1 F1 w)
    (own : w6.ownsRow W.heap.size 61 2 (.slice (some ⟨q, 0, none⟩) (es.length + 1) cap) (es.length + 1) (edsV es ++ cellsEd x))
    (hg : (w.alloc o).grownBy w6 (Value.slice ea es.length ec).ownBlock) (hat : (Value.slice ea es.length ec).ownBlock = some q ∨ q = (w.alloc o).heap.size) :
    RK g W S F st1 (some ⟨q, 0, none⟩) cap (es ++ [x]) S1 F1 w6 ∧ Turn (fun k => ea = some ⟨k, 0, none⟩) w w6 := by
  have hza : (w.alloc o).heap.size = w.heap.size + 1 := by simp
  have hz6 := hg.size
  have old : ∀ k, k < w.heap.size → ea ≠ some ⟨k, 0, none⟩ → w6.heap[k]? = w.heap[k]? := fun k hk hn =>
    (hg.block k (by omega) (fun e => hn (gown_at h.o e))).trans (Below.heap_alloc _ _ _ (by omega))
  have t1 : Turn (fun k => ea = some ⟨k, 0, none⟩) w w6 := ⟨hg.os, hg.tape, hg.output, by omega, fun k hk hn => old k hk hn⟩
  refine ⟨⟨h.q.turn t1 (fun k hk => h.ne k hk), h.sub, h.fsub, h.fup, h.t.trans' t1 (fun k hk => Or.inr (h.o.lt k (by rw [hk]; rfl)).1), ?_, fun k hk => ?_⟩, t1⟩
  · rw [List.length_append, List.length_singleton, edsV_snoc]; exact own
  · injection hk with hk; injection hk with hk; subst hk
    rcases hat with e | e
    · exact h.ne q (gown_at h.o e.symm)
    · exact ⟨fun hk => by have := h.q.lt q hk; omega, fun hk => by have := (h.q.fl q hk).2; omega⟩
/-- the place where the edges are to lie -/
theorem RK.target {g : Nat} {W : World} {S F : Nat → Prop} {st1 : List GN} {ea : Option Addr} {ec : Nat} {es : List EdP} {S1 F1 : Nat → Prop} {w : World} (h : RK g W S F st1 ea ec es S1 F1 w) (i : Nat) (hi : i < st1.length) (s : List Tx) (hr : (st1.getD i gn0).rests = s) (b : Bool) :
    ∃ nc q, w.cell? ⟨g, 0, none⟩ = some (.slice (some ⟨q, 0, none⟩) st1.length nc) ∧ (∃ v, w.cell? ⟨q, i * 2 + 1, none⟩ = some v) ∧ (∀ k, w.frozen? ⟨q, k, none⟩ = false) ∧
      PR g (st1.set i ⟨s, b, es⟩) W S F (w.setCell ⟨q, i * 2 + 1, none⟩ (.slice ea es.length ec)) := by
  obtain ⟨na, nc, NL, B, eq⟩ := h.q
  have hnl : NL.length = st1.length := by have := congrArg List.length eq; simpa using this
  obtain ⟨q, rfl, h0, h1⟩ := B.at (i := i) (by omega)
  have sq := B.sn q rfl
  have hea : ∀ fb fo, ea = some ⟨fb, fo, none⟩ → ¬ S1 fb ∧ fb < w.heap.size ∧ W.heap.size ≤ fb := fun fb fo e => by
    have hb := own_blockG h.o e
    rcases Joins.ownsRow_forms h.o with ⟨e1, _⟩ | ⟨g2, cap, e1⟩
    · injection e1 with e2; rw [e] at e2; cases e2
    · injection e1 with e2; rw [e] at e2; injection e2 with e2; injection e2 with e2 e3; subst e2; subst e3
      exact ⟨(h.ne _ e).1, hb.2, hb.1⟩
  obtain ⟨P1, P2⟩ := B.put i (by omega) es ea ec (HoldsEd.own h.o) (owns_none h.o) (fun fb fo e => ⟨(hea fb fo e).1, (hea fb fo e).2.1⟩)
  have hx : nrP (NL.getD i nr0) = grP (st1.getD i gn0) := by
    have h2 := congrArg (fun l => l[i]?) eq
    simp only [List.getElem?_map, List.getElem?_eq_getElem (show i < NL.length by omega), List.getElem?_eq_getElem hi, Option.map_some] at h2
    injection h2 with h2
    rw [List.getD_eq_getElem?_getD, List.getD_eq_getElem?_getD, List.getElem?_eq_getElem (show i < NL.length by omega), List.getElem?_eq_getElem hi]
    exact h2
  refine ⟨nc, q, by rw [← hnl]; exact B.c, ⟨_, h1⟩, fun k => B.o.frozenAt k, _, _, ⟨_, nc, _, P1, ?_⟩, h.sub, fun k hk => ?_, fun k hk => Or.inl (h.fup k hk), h.t.trans' P2 (fun k hk => by rw [hk]; exact h.sub q sq.1)⟩
  · rw [List.map_set, List.map_set, eq]
    congr 1
    unfold nrP grP at hx
    injection hx with hx1 hx2
    show ((NL.getD i nr0).rests, es) = (s, es)
    rw [hx1, hr]
  · rcases hk with hk | ⟨fo, hk⟩
    · exact h.fsub k hk
    · exact Or.inr (hea k fo hk).2.2
end Go.Proofs.Ytmmliepkcgdnlaa
/- the first rune's text, plain -/
namespace Go.Proofs.Ytmmliepkcgdnlaa
open Go.RowKit
set_option linter.unusedVariables false
set_option maxRecDepth 20000
theorem head_rst {t : Tx} (h : 0 ≤ lenS t) (h0 : 0 < t.size) : headS t ++ rstS t = t := text_rst h h0
theorem head_size {t : Tx} (h : 0 ≤ lenS t) (h0 : 0 < t.size) : (headS t).size = (Utf8.decode t 0).2 ∧ (headS t).size ≤ t.size ∧ 0 < (headS t).size := by
  have h1 := congrArg ByteArray.size (head_rst h h0)
  rw [ByteArray.size_append] at h1
  have h2 := rst_size h h0
  have h3 := (good_first h h0).2.1
  have h4 := decode_width t 0 h0
  omega
theorem head_cut {t : Tx} (h : 0 ≤ lenS t) (h0 : 0 < t.size) : t.extract (headS t).size t.size = rstS t := by rw [(head_size h h0).1]; rfl
theorem head_byte {t : Tx} (h : 0 ≤ lenS t) (h0 : 0 < t.size) (i : Nat) (hi : i < (headS t).size) : byteS t i = byteS (headS t) i := by
  conv => lhs; rw [← head_rst h h0]
  exact byteS_left _ _ _ hi
theorem head_lab {s t : Tx} (hs : 0 ≤ lenS s) (ht : 0 ≤ lenS t) (s0 : 0 < s.size) (t0 : 0 < t.size) : headS s = headS t ↔ labS s = labS t := by
  constructor
  · intro e
    have e1 := (ue_read_well s 0 s0 (good_first hs s0).1).1
    have e2 := (ue_read_well t 0 t0 (good_first ht t0).1).1
    have w1 := (head_size hs s0).1
    have w2 := (head_size ht t0).1
    have b : ∀ i, i < (Utf8.decode s 0).2 → byteS s i = byteS t i := fun i hi => by
      rw [head_byte hs s0 i (by omega), head_byte ht t0 i (by rw [← e]; omega), e]
    have ww : (Utf8.decode s 0).2 = (Utf8.decode t 0).2 := by rw [← w1, ← w2, e]
    unfold labS
    generalize (Utf8.decode s 0).1 = r1 at *
    generalize (Utf8.decode t 0).1 = r2 at *
    generalize (Utf8.decode s 0).2 = v1 at *
    generalize (Utf8.decode t 0).2 = v2 at *
    subst ww
    have b0 := b 0; have b1 := b 1; have b2 := b 2; have b3 := b 3
    simp only [Nat.zero_add] at e1 e2
    unfold Enc at e1 e2
    rcases e1 with ⟨rfl, p0, p⟩ | ⟨rfl, p0, p1, p⟩ | ⟨rfl, p0, p1, p2, p⟩ | ⟨rfl, p0, p1, p2, p3, p⟩
    · have := b0 (by omega)
      omega
    · have := b0 (by omega); have := b1 (by omega)
      omega
    · have := b0 (by omega); have := b1 (by omega); have := b2 (by omega)
      omega
    · have := b0 (by omega); have := b1 (by omega); have := b2 (by omega); have := b3 (by omega)
      omega
  · intro e
    unfold headS; rw [e]
theorem bod_same {l : List Tx} (h : ∀ t ∈ l, 0 < t.size) : bodS l = l := by
  unfold bodS finS
  cases l with
  | nil => rfl
  | cons a l =>
    have h1 := h a (by simp)
    have h2 : a ≠ (⟨#[]⟩ : ByteArray) := fun e => by rw [e] at h1; exact absurd h1 (by decide)
    simp [h2]
theorem bod_skip (l : List Tx) : bodS ((⟨#[]⟩ : ByteArray) :: l) = l := by
  unfold bodS finS; simp
/-- the run of one first rune -/
def runL (l : List Tx) : List Tx := l.takeWhile (fun t => decide (labS t = labS (l.getD 0 ByteArray.empty)))
theorem run_fol {l : List Tx} (h0 : l ≠ []) : (folS l).1 = labS (l.getD 0 ByteArray.empty) ∧ (folS l).2 = (runL l).map rstS ∧ (runL l).length = (folS l).2.length ∧ runL l = l.take (runL l).length := by
  cases l with
  | nil => exact absurd rfl h0
  | cons a l =>
    refine ⟨rfl, rfl, ?_, ?_⟩
    · show (runL (a :: l)).length = ((runL (a :: l)).map rstS).length
      rw [List.length_map]
    · exact (List.prefix_iff_eq_take.1 (List.takeWhile_prefix _))
theorem run_in {l : List Tx} {j : Nat} (hj : j < (runL l).length) : labS (l.getD j ByteArray.empty) = labS (l.getD 0 ByteArray.empty) ∧ j < l.length := by
  have hp : runL l <+: l := List.takeWhile_prefix _
  have hl := hp.length_le
  have h1 : (runL l)[j] ∈ runL l := List.getElem_mem hj
  have h2 := mem_tw (p := fun t => decide (labS t = labS (l.getD 0 ByteArray.empty))) h1
  have h3 : (runL l)[j] = l[j] := hp.getElem hj
  refine ⟨?_, by omega⟩
  rw [List.getD_eq_getElem?_getD, List.getElem?_eq_getElem (show j < l.length by omega)]
  rw [h3] at h2
  exact of_decide_eq_true h2
theorem run_end {l : List Tx} (hj : (runL l).length < l.length) : labS (l.getD (runL l).length ByteArray.empty) ≠ labS (l.getD 0 ByteArray.empty) := by
  have h1 := drop_tw (fun t => decide (labS t = labS (l.getD 0 ByteArray.empty))) l
  have h2 : l.drop (runL l).length = l.getD (runL l).length ByteArray.empty :: l.drop ((runL l).length + 1) := by
    rw [List.drop_eq_getElem_cons hj, List.getD_eq_getElem?_getD, List.getElem?_eq_getElem hj]; rfl
  unfold runL at h2
  rw [h1] at h2
  have h3 := dw_first _ _ _ _ h2
  exact of_decide_eq_false h3
end Go.Proofs.Ytmmliepkcgdnlaa
/- the document's graph: a node more, its contract -/
namespace Go.Proofs.Ytmmliepkcgdnlaa
open Go.RowKit Go.Maps
set_option linter.unusedVariables false
set_option maxRecDepth 20000
theorem nodeR_info : (Try.prog.info? 75).map (fun i => (i.zero, i.size, i.bytes)) = some (some (.agg #[.slice none 0 0, .slice none 0 0]), 2, 48) := by kernel_rfl
theorem find_at {st : List GN} {s : List Tx} {i : Nat} (hi : i < st.length) (h : (st.getD i gn0).rests = s) (hn : ∀ k, k < i → (st.getD k gn0).rests ≠ s) : findG st s = some i := by
  unfold findG
  refine List.findIdx?_eq_some_iff_getElem.2 ⟨hi, ?_, fun j hj => ?_⟩
  · rw [List.getD_eq_getElem?_getD, List.getElem?_eq_getElem hi] at h
    exact decide_eq_true h
  · have h1 := hn j hj
    rw [List.getD_eq_getElem?_getD, List.getElem?_eq_getElem (show j < st.length by omega)] at h1
    simpa using h1
theorem find_not {st : List GN} {s : List Tx} (hn : ∀ k, k < st.length → (st.getD k gn0).rests ≠ s) : findG st s = none := by
  unfold findG
  rw [List.findIdx?_eq_none_iff]
  intro x hx
  obtain ⟨k, hk, rfl⟩ := List.getElem_of_mem hx
  have h1 := hn k hk
  rw [List.getD_eq_getElem?_getD, List.getElem?_eq_getElem hk] at h1
  simpa using h1
theorem take_txP2 (l : List Tx) (i : Nat) (h : i < l.length) : l.take (i + 1) = l.take i ++ [l.getD i ByteArray.empty] := by
  rw [List.take_add_one, List.getElem?_eq_getElem h, List.getD_eq_getElem?_getD, List.getElem?_eq_getElem h]; rfl
def AddP (g : Nat) (w : World) (S F : Nat → Prop) (r : Nat × List GN) (e : Ending) (w' : World) : Prop := e = .returned (.int .i64 r.1) ∧ PR g r.2 w S F w'
def AddAny (g f : Nat) : Prop := ∀ (st : List GN) (s : List Tx) (a : Option Addr) (cap : Nat) (S F : Nat → Prop) (w : World), RQ g st w S F → OkL f s → HoldsT w a s.length s → (0 < s.length → ∀ fb fo, a = some ⟨fb, fo, none⟩ → F fb) → s.length ≤ cap → st.length + wtS s + 1 ≤ 1000000 →
    Calls Try.prog 42 #[.pointer (some ⟨g, 0, none⟩), .slice a s.length cap] w (AddP g w S F (reachF (f + 1) st s))
set_option maxHeartbeats 6400000 in
set_option maxRecDepth 100000 in
theorem add_step (g f : Nat) (IH : ∀ f', f = f' + 1 → AddAny g f') : AddAny g f := by
  intro st s a cap S F w hQ hO hH hA hc hb
  obtain ⟨i0, hi, hz0, hz1, hz2⟩ := info_parts nodeR_info
  obtain ⟨j0, hj, hy0, hy1, hy2⟩ := info_parts edgeG_info
  obtain ⟨k0, hk, hx0, hx1, hx2⟩ := info_parts str_info
  have IHH := Lib.hid IH; have OK := Lib.hid hO; have HH := Lib.hid hH; have AF := Lib.hid hA; have QW := Lib.hid hQ
  obtain ⟨n, hn⟩ : ∃ n, s.length = n := ⟨_, rfl⟩
  have HN := Lib.hid hn
  rw [hn] at hH hc
  have hn100 : n ≤ 100 := by have := hO.n; omega
  obtain ⟨L, hL⟩ : ∃ L, st.length = L := ⟨_, rfl⟩
  have HL := Lib.hid hL
  have hL2 : L ≤ 1000000 := by omega
  have HWB := Lib.hid hb
  clear hQ hO hA IH hb hL
  clear hH
  rw [hn]
  clear hn
  go_enter Try.func42, Try.ntmps42
  go_wp2_with fail
  go_loopw [5] (fun iv wr => ∃ (j : Nat), j ≤ L ∧ iv = .int .i64 j ∧ Hid (∀ k, k < j → (st.getD k gn0).rests ≠ s) ∧ Hid (Below w.heap.size w wr)) (fun iv _ => L - (intOf iv).toNat)
  case atStart => exact ⟨0, by omega, rfl, Lib.hid (fun k hk => by omega), Lib.hid (Below.refl _ _)⟩
  case round =>
    obtain ⟨j, hj', rfl, hNo, hB⟩ := hrel
    have QR := Lib.hid (QW.out.below hB.out)
    obtain ⟨na, nc, NL, B, eq⟩ := QR.out
    have hnl : NL.length = L := by have := congrArg List.length eq; have h2 := HL.out; simp at this; omega
    have gc := B.c
    rw [hnl] at gc
    by_cases hlt : j < L
    · obtain ⟨q, rfl, v0, -⟩ := B.at (i := j) (by omega)
      have hxr := B.r _ (mem_nr (L := NL) (i := j) (by omega))
      have hxe : (NL.getD j nr0).rests = (st.getD j gn0).rests := by
        have h2 := congrArg (fun l => l[j]?) eq
        have h3 := HL.out
        simp only [List.getElem?_map, List.getElem?_eq_getElem (show j < NL.length by omega), List.getElem?_eq_getElem (show j < st.length by omega), Option.map_some] at h2
        injection h2 with h2
        rw [List.getD_eq_getElem?_getD, List.getD_eq_getElem?_getD, List.getElem?_eq_getElem (show j < NL.length by omega), List.getElem?_eq_getElem (show j < st.length by omega)]
        exact congrArg Prod.fst h2
      obtain ⟨x, hx⟩ : ∃ x, NL.getD j nr0 = x := ⟨_, rfl⟩
      rw [hx] at v0 hxr hxe
      obtain ⟨m, hm⟩ : ∃ m, x.rests.length = m := ⟨_, rfl⟩
      have h1 := hxr.1
      have h2 := hxr.2.1
      rw [hm] at h1 v0 h2
      obtain ⟨b, hb⟩ : ∃ b, decide (x.rests = s) = b := ⟨_, rfl⟩
      have CS := Lib.hid (same8_any x.ra a m x.rc n cap x.rests s wr h1 (by have := HH.out.below hB.out; rw [HN.out] at this; exact this) (by omega) (by omega))
      rw [hb] at CS
      have HB := Lib.hid hb
      have HXE := Lib.hid hxe
      have i1 : (0 : Int) ≤ (j : Int) := by omega
      have i2 : (j : Int) < (L : Int) := by omega
      clear hb hxe hx hm h1 hxr h2 B eq hnl
      cases b with
      | true =>
        go_wp2_with fail
        refine CS.out.mono ?_
        rintro e w1 ⟨rfl, mm, rfl⟩
        have FD := Lib.hid (show reachF (f + 1) st s = (j, st) from reach_found (find_at (by rw [HL.out]; exact hlt) (HXE.out ▸ of_decide_eq_true HB.out) hNo.out))
        go_wp2_with fail
        go_ret
        rw [FD.out]
        exact ⟨rfl, S, F, QR.out.below (below_drewN _ _), fun k hk => Or.inl hk, fun k hk => Or.inl hk, fun k hk => hk, Turn.of_below (hB.out.trans ((below_drewN wr mm).mono hB.out.size))⟩
      | false =>
        go_wp2_with fail
        refine CS.out.mono ?_
        rintro e w1 ⟨rfl, mm, rfl⟩
        have B2 := Lib.hid (hB.out.trans ((below_drewN wr mm).mono hB.out.size))
        go_wp2_with fail
        go_roundw
        case rel => exact ⟨j + 1, by omega, by go_num, Lib.hid (fun k hk => by
          rcases Nat.lt_or_ge k j with h | h
          · exact hNo.out k h
          · obtain rfl : k = j := by omega
            rw [← HXE.out]; exact of_decide_eq_false HB.out), B2⟩
        case measure => simp [intOf] <;> omega
    · obtain rfl : j = L := by omega
      have FD := Lib.hid (find_not (st := st) (s := s) (fun k hk => hNo.out k (by rw [HL.out] at hk; exact hk)))
      have ED := Lib.hid (show reachF (f + 1) st s = (st.length, (edgesF (reachF f) (bodS s).length (bodS s) [] (st ++ [⟨s, false, []⟩])).2.set st.length ⟨s, finS s, (edgesF (reachF f) (bodS s).length (bodS s) [] (st ++ [⟨s, false, []⟩])).1⟩) from by conv => lhs; unfold reachF; rw [FD.out])
      have HH1 := Lib.hid (HH.out.below hB.out)
      have BO := B.o
      rw [hnl] at BO
      have BW := Lib.hid B; have EQ := Lib.hid eq; have HNL := Lib.hid hnl; have OWN := Lib.hid BO
      have AB := Lib.hid (show ∀ o w', (wr.alloc o).grownBy w' (Value.slice na j nc).ownBlock → w'.cell? ⟨g, 0, none⟩ = some (.slice na j nc) ∧ w'.frozen? ⟨g, 0, none⟩ = false from fun o w' hg => by
        have lg := lt_of_cell gc
        have o2 := (hg.block g (by simp; omega) (fun e => (BW.out.sn g (gown_at OWN.out e)).2 rfl)).trans (Below.heap_alloc wr o g lg)
        exact ⟨(World.cell?_of_block (w := wr) o2).trans gc, (World.frozen?_of_block (w := wr) o2).trans (BW.out.f 0)⟩)
      clear B eq hnl BO hNo hlt
      go_wp2_with (at_builtin; refine wpList_append_lies _ rfl (.tmp 42) (.tmp 45) 36 rfl 0 75 i0 _ 2 48 Try.underlying36 hi hz0 hz1 hz2 rfl (by omega) (.slice na j nc) j (nrV NL) (by rfl) (OWN.out.alloc _) ⟨wr.heap.size, 0, none⟩ 1 1 [.slice a n cap, .slice none 0 0] (by rfl) (by rfl) (World.news_of_block (cs := #[.slice a n cap, .slice none 0 0]) (t := 75) (fr := (0, 0)) (heap_alloc_new wr _)) (by simp [Value.oneCell']) (by omega) (by unfold maxLen; omega) (by omega) (by omega) (wr.heap.size + 1) (by simp) ?_; intro g3 c3' w3 hown3 hgrow3 hat3 hlt3; obtain ⟨x0, x1⟩ := AB.out _ _ hgrow3)
      have HSZ := OK.out.n
      obtain ⟨S0, hR0⟩ : ∃ S0, RK g w S F (st ++ [⟨s, false, []⟩]) none 0 [] S0 F (w3.setCell ⟨g, 0, none⟩ (.slice (some ⟨g3, 0, none⟩) (j + 1) c3')) := by
        obtain ⟨G1, G2, G3⟩ := BW.out.grow (o := .cells #[.slice a n cap, .slice none 0 0] 75) (s := s) (ra := a) (rc := cap) HH1.out (by omega) AF.out (by rw [HNL.out, HN.out]; exact hown3) (by rw [HNL.out]; exact hgrow3) (by rw [HNL.out]; exact hat3.imp id (fun e => by simp; exact e)) hlt3
        rw [HNL.out] at G1 G2
        exact ⟨_, ⟨_, _, _, G1, by rw [List.map_append, List.map_append, EQ.out]; rfl⟩, fun k hk => by
          rcases hk with hk | hk
          · exact Or.inl hk
          · rcases G3 with e | e
            · exact Or.inl (by rw [hk]; exact e)
            · exact Or.inr (by rw [hk]; have := hB.out.size; omega), fun k hk => Or.inl hk, fun k hk => hk, (Turn.of_below hB.out).trans G2, World.ownsRow_nil _ _ _ _, fun k e => (by cases e)⟩
      have R0 := Lib.hid hR0
      clear hR0 hown3 hgrow3 hat3 hlt3 x0 x1 AB OWN BW EQ HNL gc QR HH1 FD
      generalize w3.setCell ⟨g, 0, none⟩ (.slice (some ⟨g3, 0, none⟩) (j + 1) c3') = w5 at *
      obtain ⟨R, hR⟩ : ∃ r, edgesF (reachF f) (bodS s).length (bodS s) [] (st ++ [⟨s, false, []⟩]) = r := ⟨_, rfl⟩
      rw [hR] at ED
      have HR := Lib.hid hR
      have HOK := Lib.hid (show OkL f (bodS s) ∧ ∀ t ∈ bodS s, 0 < t.size from ⟨OK.out.bod, bod_pos OK.out.ord⟩)
      have hbl : (bodS s).length ≤ 100 := HOK.out.1.n
      have HWT := Lib.hid (show (st ++ [(⟨s, false, []⟩ : GN)]).length + wtS (bodS s) ≤ 1000000 from by rw [List.length_append, List.length_singleton]; have := wt_bod s; have := HWB.out; omega)
      have HLT := Lib.hid (show j < (st ++ [(⟨s, false, []⟩ : GN)]).length from by rw [List.length_append, List.length_singleton, HL.out]; omega)
      have HRS := Lib.hid (show ((st ++ [(⟨s, false, []⟩ : GN)]).getD j gn0).rests = s from by rw [← HL.out]; simp [List.getD_eq_getElem?_getD])
      clear hR HSZ
      go_wp2_with fail
      go_loopw [7, 8] (fun ev iv wr => ∃ (i k : Nat) (l : List Tx) (es : List EdP) (st1 : List GN) (S1 F1 : Nat → Prop) (ea : Option Addr) (ec : Nat), i ≤ n ∧ ev = .slice ea es.length ec ∧ iv = .int .i64 i ∧ l.length ≤ k ∧ es.length + k ≤ 100 ∧ Hid (bodS (s.drop i) = l) ∧ Hid (edgesF (reachF f) k l es st1 = R) ∧ Hid (OkL f l ∧ ∀ t ∈ l, 0 < t.size) ∧ Hid (st1.length + wtS l ≤ 1000000) ∧ Hid (j < st1.length) ∧ Hid ((st1.getD j gn0).rests = s) ∧ Hid (RK g w S F st1 ea ec es S1 F1 wr)) (fun _ iv _ => n - (intOf iv).toNat)
      case atStart => exact ⟨0, (bodS s).length, bodS s, [], _, S0, F, none, 0, by omega, rfl, rfl, Nat.le_refl _, by simpa using hbl, Lib.hid (by rw [List.drop_zero]), HR, HOK, HWT, HLT, HRS, R0⟩
      case round =>
        clear R0 HOK HWT HLT HRS HR hbl
        obtain ⟨i, k, l, es, st1, S1, F1, ea, ec, hi', rfl, rfl, hlk, hek, hBD, hE, hOK, hWT, hLT, hRS, hRK⟩ := hrel
        rename World => wr
        have HA := Lib.hid (show HoldsT wr a n s from by
          have h1 := HH.out
          rw [HN.out] at h1
          exact holdsT_turn h1 hRK.out.t (fun h0 fb fo e => (QW.out.fl fb (AF.out (by rw [HN.out]; exact h0) fb fo e)).1))
        by_cases hin : i < n
        · obtain ⟨b, o, rfl, hcc⟩ := HA.out.at (by omega)
          have xc := hcc i hin
          obtain ⟨t, ht⟩ : ∃ t, s.getD i ByteArray.empty = t := ⟨_, rfl⟩
          rw [ht] at xc
          have i1 : (0 : Int) ≤ (i : Int) := by omega
          have i2 : (i : Int) < (n : Int) := by omega
          have SD := Lib.hid (show s.drop i = t :: s.drop (i + 1) from by
            rw [List.drop_eq_getElem_cons (by rw [HN.out]; exact hin), ← ht, List.getD_eq_getElem?_getD, List.getElem?_eq_getElem (by rw [HN.out]; exact hin)]; rfl)
          obtain ⟨zf, hzf⟩ : ∃ z, t.toList.isEmpty = z := ⟨_, rfl⟩
          have hzt2 : (t.toList == []) = zf := by rw [← hzf]; cases t.toList <;> rfl
          clear hcc ht
          cases zf with
          | true =>
            have ht0 : t = (⟨#[]⟩ : ByteArray) := (tx_nil t).2 (List.isEmpty_iff.1 hzf)
            have HBN := Lib.hid (show bodS (s.drop (i + 1)) = l from by
              have h1 := hBD.out
              rw [SD.out, ht0, bod_skip] at h1
              rw [h1]; exact bod_same hOK.out.2)
            clear ht0
            go_wp2_with fail
            go_roundw
            case rel => exact ⟨i + 1, k, l, es, st1, S1, F1, ea, ec, by omega, rfl, by go_num, hlk, hek, HBN, hE, hOK, hWT, hLT, hRS, hRK⟩
            case measure => simp [intOf] <;> omega
          | false =>
            have hls : l = t :: s.drop (i + 1) := by
              rw [← hBD.out, SD.out]
              unfold bodS finS
              have h2 : t ≠ (⟨#[]⟩ : ByteArray) := fun e => by rw [(tx_nil t).1 e] at hzf; cases hzf
              simp [h2]
            have LS := Lib.hid (show l = s.drop i from by rw [hls, SD.out])
            have hl0 : l ≠ [] := by rw [hls]; simp
            have hpos : 0 < l.length := List.length_pos_iff.2 hl0
            have htl : t ∈ l := by rw [hls]; simp
            have ht0 : l.getD 0 ByteArray.empty = t := by rw [hls]; rfl
            have tg := hOK.out.1.lo t htl
            have tp := hOK.out.2 t htl
            have tz := hOK.out.1.sz t htl
            obtain ⟨k, rfl⟩ : ∃ k', k = k' + 1 := ⟨k - 1, by omega⟩
            obtain ⟨f', rfl⟩ : ∃ f', f = f' + 1 := by
              refine ⟨f - 1, ?_⟩
              have h1 := rst_len tg tp
              have h2 := hOK.out.1.hi t htl
              omega
            have C := Lib.hid (IHH.out f' rfl)
            have HFL := Lib.hid (fol_len l hl0)
            have HWF := Lib.hid (wt_fol hl0 hOK.out.1.lo hOK.out.2)
            have OKF := Lib.hid (hOK.out.1.fol hOK.out.2)
            have RF := Lib.hid (run_fol hl0)
            have RIN := Lib.hid (fun (m : Nat) (hm : m < (runL l).length) => run_in hm)
            have REN := Lib.hid (fun (h : (runL l).length < l.length) => run_end h)
            rw [ht0] at RF RIN REN
            have hEE := hE.out
            unfold edgesF at hEE
            rw [if_neg hl0] at hEE
            obtain ⟨⟨lab, rs⟩, hfo⟩ : ∃ r, folS l = r := ⟨_, rfl⟩
            rw [hfo] at hEE HFL HWF OKF RF
            obtain ⟨⟨ix, st2⟩, hre⟩ : ∃ r, reachF (f' + 1) st1 rs = r := ⟨_, rfl⟩
            simp only at hEE
            rw [hre] at hEE
            have HE := Lib.hid hEE
            have HRE := Lib.hid hre
            have RLN := Lib.hid (reach_len f' st1 rs OKF.out)
            rw [hre] at RLN
            obtain ⟨D, hD⟩ : ∃ D, rs.length = D := ⟨_, rfl⟩
            simp only at RF HFL HWF
            rw [hD] at RF HFL HWF HE
            have HD := Lib.hid hD
            have HLAB := Lib.hid (show lab = labS t from RF.out.1)
            have hDl := HFL.out
            have hln : l.length = n - i := by rw [LS.out, List.length_drop, HN.out]
            have CR := Lib.hid (r1runesq_any t wr (by omega))
            have CP := Lib.hid (fun w' => rprefix_one t w' (by omega) tg tp)
            have TG := Lib.hid tg; have HT0 := Lib.hid ht0
            have KR := Lib.hid (show 1 ≤ (runesS t).length ∧ (runesS t).getD 0 0 = labS t from by rw [rst_runes tg tp]; simp)
            clear hEE hre hE hfo hD hls hl0 htl ht0 tg tp tz hzf xc
            have RSE := Lib.hid (show rs = (l.take D).map rstS from by rw [RF.out.2.1, RF.out.2.2.2, RF.out.2.2.1])
            have RIN2 := Lib.hid (show ∀ m, m < D → labS (l.getD m ByteArray.empty) = labS t from fun m hm => (RIN.out m (by rw [RF.out.2.2.1]; exact hm)).1)
            have REN2 := Lib.hid (show D < l.length → labS (l.getD D ByteArray.empty) ≠ labS t from fun h => by have h1 := REN.out (by rw [RF.out.2.2.1]; exact h); rwa [RF.out.2.2.1] at h1)
            clear RIN REN RF
            have LC := Lib.hid (show ∀ (m : Nat), i + m < n → ∀ w', Below wr.heap.size wr w' → w'.cell? ⟨b, o + (i + m), none⟩ = some (.string (l.getD m ByteArray.empty)) from fun m hm w' hb => by
              obtain ⟨b', o', e, hcc⟩ := (HA.out.below hb).at (by omega)
              injection e with e; injection e with e1 e2; subst e1; subst e2
              rw [hcc (i + m) hm, LS.out]
              simp [List.getD_eq_getElem?_getD])
            have x0 := LC.out 0 (by omega) wr (Below.refl _ _)
            rw [HT0.out, Nat.add_zero] at x0
            obtain ⟨hd, hhd⟩ : ∃ h, headS t = h := ⟨_, rfl⟩
            rw [hhd] at CP
            have HHD := Lib.hid hhd
            have hds : hd.size ≤ t.size := by rw [← hhd]; exact (head_size TG.out (hOK.out.2 t (by rw [LS.out, SD.out]; simp))).2.1
            clear hhd
            go_wp2_with fail
            refine CR.out.mono ?_
            rintro e w6 (⟨h1, la, lc, rfl, h2, h3⟩ | ⟨h1, rfl, h3⟩)
            rotate_left
            · exact absurd TG.out (by omega)
            obtain ⟨kr, hkr⟩ : ∃ x, (runesS t).length = x := ⟨_, rfl⟩
            have KR1 := KR.out.1
            have HI : HoldsI .i32 w6 la kr (intsN (runesS t)) := by rw [← hkr]; exact holdsI_own h2
            rw [hkr] at KR1
            obtain ⟨lb, lo, rfl, hlc⟩ := HI.at (by omega)
            have lcell := hlc 0 (by omega)
            rw [show (intsN (runesS t)).getD 0 0 = (lab : Int) from by
              rw [HLAB.out, ← KR.out.2]
              simp [intsN, List.getD_eq_getElem?_getD, List.getElem?_eq_getElem (show 0 < (runesS t).length by omega)]] at lcell
            have LBS := Lib.hid (show ¬ S1 lb from fun hk => by have := hRK.out.q.lt lb hk; have := (own_blockG h2 rfl).1; omega)
            have R6 := Lib.hid (hRK.out.more h3)
            have B6 := Lib.hid h3
            have LC6 := Lib.hid lcell
            rw [hkr]
            clear h1 h2 h3 HI hlc lcell hkr x0 CR
            have x1 := LC.out 0 (by omega) w6 B6.out
            rw [HT0.out, Nat.add_zero] at x1
            go_wp2_with fail
            refine (CP.out w6).mono ?_
            rintro e w7 ⟨rfl, hb⟩
            have R7 := Lib.hid (R6.out.more hb)
            have B7 := Lib.hid (B6.out.trans (hb.mono B6.out.size))
            have LC7 := Lib.hid ((hb.cell (p := ⟨lb, lo + 0, none⟩) (lt_of_cell LC6.out)).trans LC6.out)
            clear hb x1 R6 LC6 B6
            go_wp2_with fail
            go_loopw [8, 12] (fun iv bv wq => ∃ (m : Nat) (oa : Option Addr) (oc on : Nat) (out : List Tx), m ≤ D ∧ on = out.length ∧ iv = .int .i64 ((i + m : Nat) : Int) ∧ bv = .slice oa on oc ∧ Hid (out = (l.take m).map rstS) ∧ Hid (FS w7.heap.size w7 (fun _ => False) oa oc out wq)) (fun iv _ _ => n - (intOf iv).toNat)
            case atStart => exact ⟨0, none, 0, 0, [], by omega, rfl, by simp, rfl, Lib.hid (by simp), Lib.hid (FS.start w7)⟩
            case round =>
              obtain ⟨m, oa, oc, on, out, hm, hon, rfl, rfl, hO, hF⟩ := hrel
              rename World => wq
              obtain ⟨zc, hzc⟩ : ∃ z, decide (m < D) = z := ⟨_, rfl⟩
              have HZC := Lib.hid hzc
              have BQ := Lib.hid (B7.out.trans (hF.out.b.mono B7.out.size))
              have HON := Lib.hid hon
              clear hzc hon
              go_upto_region 16 with fail
              go_cut [85] (fun u wd => u = .bool zc ∧ Hid (Below wq.heap.size wq wd))
              case first =>
                by_cases hlt : i + m < n
                · have d1 : decide ((i : Int) + (m : Int) < (n : Int)) = true := decide_eq_true (by omega)
                  have d2 : decide (i + m < n) = true := decide_eq_true hlt
                  have hml : m < l.length := by omega
                  obtain ⟨t', ht'⟩ : ∃ x, l.getD m ByteArray.empty = x := ⟨_, rfl⟩
                  have htm : t' ∈ l := by rw [← ht']; exact getD_tx hml
                  have x2 := LC.out m hlt wq BQ.out
                  rw [ht'] at x2
                  have tg' := hOK.out.1.lo t' htm
                  have tp' := hOK.out.2 t' htm
                  have tz' := hOK.out.1.sz t' htm
                  have CP' := Lib.hid (rprefix_one t' wq (by omega) tg' tp')
                  obtain ⟨hd', hhd'⟩ : ∃ h, headS t' = h := ⟨_, rfl⟩
                  have hz : (hd'.toList == hd.toList) = zc := by
                    have tp := hOK.out.2 t (by rw [LS.out, SD.out]; simp)
                    have h1 := head_lab (s := t') (t := t) tg' TG.out tp' tp
                    rw [hhd', HHD.out] at h1
                    rw [← HZC.out]
                    by_cases hmD : m < D
                    · rw [decide_eq_true hmD, h1.2 (by rw [← ht']; exact RIN2.out m hmD)]; exact str_same _
                    · obtain rfl : m = D := by omega
                      rw [decide_eq_false hmD]
                      exact str_other (fun e => REN2.out hml (by rw [ht']; exact h1.1 e))
                  rw [hhd'] at CP'
                  clear hhd' ht' htm tg' tp' tz'
                  go_wp2_with fail
                  refine CP'.out.mono ?_
                  rintro e w8 ⟨rfl, hb⟩
                  go_wp2_with fail
                  go_meet
                  exact ⟨rfl, Lib.hid hb⟩
                · have d1 : decide ((i : Int) + (m : Int) < (n : Int)) = false := decide_eq_false (by omega)
                  have d2 : decide (i + m < n) = false := decide_eq_false hlt
                  obtain rfl : zc = false := by rw [← HZC.out]; exact decide_eq_false (by omega)
                  go_wp2_with fail
                  go_meet
                  exact ⟨rfl, Lib.hid (Below.refl _ _)⟩
              case rest =>
                obtain ⟨rfl, hBq⟩ := hcut
                rename World => w9
                have F9 := Lib.hid (hF.out.more hBq.out)
                have B9 := Lib.hid (BQ.out.trans (hBq.out.mono BQ.out.size))
                clear hF hBq BQ
                cases zc with
                | true =>
                  have hmD : m < D := of_decide_eq_true HZC.out
                  have hml : m < l.length := by omega
                  have hlt : i + m < n := by omega
                  obtain ⟨t', ht'⟩ : ∃ x, l.getD m ByteArray.empty = x := ⟨_, rfl⟩
                  have x3 := LC.out m hlt w9 B9.out
                  rw [ht'] at x3
                  have htm : t' ∈ l := by rw [← ht']; exact getD_tx hml
                  have tg' := hOK.out.1.lo t' htm
                  have tp' := hOK.out.2 t' htm
                  have tz' := hOK.out.1.sz t' htm
                  have tp := hOK.out.2 t (by rw [LS.out, SD.out]; simp)
                  have hh' : headS t' = hd := by rw [← HHD.out]; exact (head_lab tg' TG.out tp' tp).2 (by rw [← ht']; exact RIN2.out m hmD)
                  have hsz' := (head_size tg' tp').2.1
                  rw [hh'] at hsz'
                  have HCUT := Lib.hid (show t'.extract hd.size t'.size = rstS t' from by rw [← hh']; exact head_cut tg' tp')
                  have HNX := Lib.hid (show out ++ [rstS t'] = (l.take (m + 1)).map rstS from by rw [take_txP2 l m hml, ht', List.map_append, hO.out]; rfl)
                  have hs1 : (hd.size : Int) ≤ (t'.size : Int) := by omega
                  have i3 : (0 : Int) ≤ ((i + m : Nat) : Int) := by omega
                  have i4 : ((i + m : Nat) : Int) < (n : Int) := by omega
                  have i5 : (0 : Int) ≤ (i : Int) + (m : Int) := by omega
                  have i6 : (i : Int) + (m : Int) < (n : Int) := by omega
                  have hbl := F9.out.bl
                  have hol : out.length ≤ 100 := by rw [hO.out, List.length_map, List.length_take]; omega
                  have hon := HON.out
                  subst hon
                  clear ht' htm tg' tp' tp hh'
                  go_wp2_with (at_builtin; refine wpList_append_lies _ rfl (.tmp 86) (.tmp 94) 22 rfl w7.heap.size 9 k0 _ 1 16 Try.underlying22 hk hx0 hx1 hx2 rfl (by omega) (.slice oa out.length oc) out.length (strsV out) (by rfl) (F9.out.o.alloc _) ⟨w9.heap.size, 0, none⟩ 1 1 [.string (t'.extract hd.size t'.size)] (by rfl) (by rfl) (World.news_of_block (cs := #[.string (t'.extract hd.size t'.size)]) (t := 9) (fr := (0, 0)) (heap_alloc_new w9 _)) (by simp [Value.oneCell']) (by omega) (by unfold maxLen; omega) (by omega) (by simp; omega) (w9.heap.size + 1) (by simp) ?_; intro g4 c4 w8 hown4 hgrow4 hat4 hlt4; have GR := Lib.hid (F9.out.grow hown4 hgrow4 (hat4.imp id (fun e => by simp; exact e))); clear hown4 hgrow4 hat4 hlt4)
                  rw [HCUT.out] at GR
                  go_roundw
                  case rel => exact ⟨m + 1, some ⟨g4, 0, none⟩, c4, out.length + 1, out ++ [rstS t'], by omega, by simp, by go_num, rfl, HNX, Lib.hid GR.out.1⟩
                  case measure => simp [intOf] <;> omega
                | false =>
                  have hmD : m = D := by have := of_decide_eq_false HZC.out; omega
                  subst hmD
                  obtain rfl : out = rs := hO.out.trans RSE.out.symm
                  have hon := HON.out
                  subst hon
                  have R9 := Lib.hid (R7.out.more (w' := w9) (by
                    have h1 := F9.out.b
                    exact h1))
                  have ROWS := Lib.hid (show ∀ k, (∃ fo, oa = some ⟨k, fo, none⟩) → ¬ S1 k ∧ k < w9.heap.size ∧ w.heap.size ≤ k ∧ ea ≠ some ⟨k, 0, none⟩ from fun k hk => by
                    obtain ⟨fo, e⟩ := hk
                    have h1 := own_blockG F9.out.o e
                    have h2 := R7.out.t.size
                    exact ⟨fun h => by have := R7.out.q.lt k h; omega, h1.2, by omega, fun e2 => by have := (R7.out.o.lt k (by rw [e2]; rfl)).2; omega⟩)
                  have R9d := Lib.hid ((R9.out.rows _ ROWS.out).more (Below.refl w9.heap.size w9).drew)
                  have C6 := Lib.hid (C.out st1 out oa oc S1 _ w9.drew R9d.out.q OKF.out ((HoldsT.own F9.out.o).below (Below.refl _ _).drew) (fun h0 fb fo e => Or.inr ⟨fo, e⟩) (owns_none F9.out.o).2 (by have := hWT.out; have := HWF.out; omega))
                  rw [HRE.out] at C6
                  have y0 : w9.drew.cell? ⟨lb, lo, none⟩ = some (.int .i32 (lab : Int)) := by
                    have h1 := (F9.out.b.cell (p := ⟨lb, lo + 0, none⟩) (lt_of_cell LC7.out)).trans LC7.out
                    rw [Nat.add_zero] at h1; exact h1
                  have hes : es.length ≤ 100 := by omega
                  have kr1 : (0 : Int) < (kr : Int) := by omega
                  have kr2 : 0 < kr := by omega
                  go_upto_region 19 with fail
                  go_region_law
                    (first
                      | (refine step_append_lies _ (by rfl) _ _ _ (by rfl) w.heap.size 61 j0 _ 2 16 Try.underlying39 hj hy0 hy1 hy2 rfl (by omega) (.slice ea es.length ec) es.length (edsV es) (by first | rfl | (simp [Act.eval]; done) | simp [Act.eval, Act.put]) (hR10.o.alloc _) ⟨w10.heap.size, 0, none⟩ 1 1 [.int .i32 (lab : Int), .int .i64 (ix : Int)] (by first | rfl | (simp [Act.eval]; done) | simp [Act.eval, Act.put]) (by rfl) (World.news_of_block (cs := #[.int .i32 (lab : Int), .int .i64 (ix : Int)]) (t := 61) (fr := (0, 0)) (heap_alloc_new w10 _)) (by simp [Value.oneCell']) (by omega) (by unfold maxLen; omega) (by omega) (by have := hR10.t.size; simp; omega) (w10.heap.size + 1) (by simp) ?_; intro g4 c4 w8 hown8 hgrow8 hat8 hlt8)
                      | (go_simp; go_at_call 42; (with_reducible refine C6.out.mono ?_); rintro e w10 ⟨rfl, hPO⟩; obtain ⟨S2, F2, hR10⟩ := R9d.out.step hPO; have y1 := (show w10.cell? ⟨lb, lo, none⟩ = some (.int .i32 (lab : Int)) from by (obtain ⟨_, _, _, _, _, _, t2⟩ := hPO; exact (t2.cell (lt_of_cell y0) LBS.out).trans y0))))
                  all_goals
                    have RN := Lib.hid (hR10.edge (x := ⟨(lab : Int), (ix : Int)⟩) hown8 hgrow8 (hat8.imp id (fun e => by simp; exact e))).1
                    have DRP := Lib.hid (show bodS (s.drop (i + m)) = l.drop m from by
                      have h1 : s.drop (i + m) = l.drop m := by rw [LS.out, List.drop_drop]
                      rw [h1]; exact bod_same (fun u hu => hOK.out.2 u (List.mem_of_mem_drop hu)))
                    have RSN := Lib.hid (show (st2.getD j gn0).rests = s from by rw [← hRS.out]; have := reach_rests f' st1 out OKF.out j hLT.out; rw [HRE.out] at this; exact this)
                    clear hown8 hgrow8 hat8 hlt8 hR10 y1 y0
                    go_wp2_with fail
                    go_roundw
                    case rel => exact ⟨i + m, by omega, k, l.drop m, es ++ [⟨(lab : Int), (ix : Int)⟩], st2, S2, F2, some ⟨g4, 0, none⟩, c4, ⟨rfl, by simp, rfl⟩, by omega, by rw [List.length_drop]; omega, by simp; omega, DRP, HE, Lib.hid ⟨hOK.out.1.drop _, fun t ht => hOK.out.2 t (List.mem_of_mem_drop ht)⟩, Lib.hid (by have := hWT.out; have := HWF.out; have := RLN.out; omega), Lib.hid (by have := hLT.out; have := RLN.out; omega), Lib.hid (by have := RSN.out; rwa [List.getD_eq_getElem?_getD] at this), RN⟩
                    case measure => simp [intOf] <;> omega
        · obtain rfl : i = n := by omega
          have hl : l = [] := by rw [← hBD.out, List.drop_of_length_le (by rw [HN.out]; omega)]; rfl
          subst hl
          have HRR := Lib.hid (show R = (es, st1) from by
            rw [← hE.out]
            cases k with
            | zero => rfl
            | succ k => unfold edgesF; rw [if_pos rfl])
          obtain ⟨nc1, q, gc, ⟨v, hv⟩, hqf, hPO⟩ := hRK.out.target j hLT.out s hRS.out (finS s)
          have f1 := hqf (j * 2 + 1)
          have i1 : (0 : Int) ≤ (j : Int) := by omega
          have i2 : (j : Int) < (st1.length : Int) := by have := hLT.out; omega
          have FIN := Lib.hid hPO
          clear hPO hqf
          go_wp2_with fail
          go_ret
          rw [ED.out, HRR.out, HL.out]
          exact ⟨rfl, FIN.out⟩
theorem add_any (g : Nat) : ∀ f, AddAny g f := by
  intro f
  induction f with
  | zero => exact add_step g 0 (fun f' e => by omega)
  | succ f ih => exact add_step g (f + 1) (fun f' e => by obtain rfl : f = f' := by omega
                                                          exact ih)
end Go.Proofs.Ytmmliepkcgdnlaa
/- the document's graph: Build, Final, Edges, Next, From -/
namespace Go.Proofs.Ytmmliepkcgdnlaa
open Go.RowKit
set_option linter.unusedVariables false
set_option maxRecDepth 20000
theorem RQ.node {g : Nat} {st : List GN} {w : World} {S F : Nat → Prop} (h : RQ g st w S F) {k : Nat} (hk : k < st.length) : ∃ q nc ra rc ea ec, w.cell? ⟨g, 0, none⟩ = some (.slice (some ⟨q, 0, none⟩) st.length nc) ∧
    w.cell? ⟨q, k * 2, none⟩ = some (.slice ra (st.getD k gn0).rests.length rc) ∧ w.cell? ⟨q, k * 2 + 1, none⟩ = some (.slice ea (st.getD k gn0).edges.length ec) ∧ HoldsT w ra (st.getD k gn0).rests.length (st.getD k gn0).rests ∧ HoldsEd w ea (st.getD k gn0).edges.length (st.getD k gn0).edges ∧ (ea = none → (st.getD k gn0).edges.length = 0 ∧ ec = 0) := by
  obtain ⟨na, nc, NL, B, eq⟩ := h
  obtain ⟨hl, hx⟩ := B.len eq
  obtain ⟨q, rfl, c0, c1⟩ := B.at (i := k) (by omega)
  have hm := mem_nr (L := NL) (i := k) (by omega)
  have he := B.e _ hm
  have hr := B.r _ hm
  obtain ⟨x1, x2⟩ := hx k hk
  refine ⟨q, nc, (NL.getD k nr0).ra, (NL.getD k nr0).rc, (NL.getD k nr0).ea, (NL.getD k nr0).ec, by rw [← hl]; exact B.c, by rw [← x1]; exact c0, by rw [← x2]; exact c1, by rw [← x1]; exact hr.1, by rw [← x2]; exact he.1, by rw [← x2]; exact he.2.1.1⟩
theorem RQ.len {g : Nat} {st : List GN} {w : World} {S F : Nat → Prop} (h : RQ g st w S F) : ∃ na nc, w.cell? ⟨g, 0, none⟩ = some (.slice na st.length nc) := by
  obtain ⟨na, nc, NL, B, eq⟩ := h
  obtain ⟨hl, hx⟩ := B.len eq
  exact ⟨na, nc, by rw [← hl]; exact B.c⟩
structure CtxR (w0 w : World) (g : Nat) (st : List GN) (S F : Nat → Prop) : Prop where
  Q : RQ g st w S F
  s : ∀ k, S k → w0.heap.size ≤ k
  b : Below w0.heap.size w0 w
theorem CtxR.more {w0 w w' : World} {g : Nat} {st : List GN} {S F : Nat → Prop} (c : CtxR w0 w g st S F) (hb : Below w.heap.size w w') : CtxR w0 w' g st S F :=
  ⟨c.Q.below hb, c.s, c.b.trans (hb.mono c.b.size)⟩
theorem rbuild_bad (a : Option Addr) (n cap : Nat) (ts : List Tx) (v : Int) (w : World) (hh : HoldsT w a n ts) (hn : n ≤ 9223372036854775807) (hs : ∀ t ∈ ts, t.size ≤ 1048576) (hv : goodV ts = v) (h0 : v ≠ 0) :
    Calls Try.prog 15 #[.slice a n cap] w fun e w' => e = .returned (.tuple #[.pointer none, .int .i64 v]) ∧ Below w.heap.size w w' := by
  have CG := Lib.hid (rgood_any a n cap ts w hh hn hs)
  rw [hv] at CG
  have hne : (v != 0) = true := by simpa using h0
  clear hh hs hv h0
  go_enter Try.func15, Try.ntmps15
  go_wp2_with fail
  refine CG.out.mono ?_
  rintro e w1 ⟨rfl, hb⟩
  have B1 := Lib.hid hb
  clear hb
  go_wp2_with fail
  go_ret2
  exact ⟨rfl, B1.out⟩
set_option maxHeartbeats 800000 in
theorem rbuild_good {w0 : World} (a : Option Addr) (n cap : Nat) (ts : List Tx) (st : List GN) (w : World) (hw : Below w0.heap.size w0 w) (hh : HoldsT w a n ts) (hc : n ≤ cap) (hn : n ≤ 9223372036854775807) (hs : ∀ t ∈ ts, t.size ≤ 100) (hv : goodV ts = 0) (hst : grS ts = st) :
    Calls Try.prog 15 #[.slice a n cap] w fun e w' => ∃ g S F, e = .returned (.tuple #[.pointer (some ⟨g, 0, none⟩), .int .i64 0]) ∧ CtxR w0 w' g st S F ∧ Below w.heap.size w w' := by
  subst hst
  have CG := Lib.hid (rgood_any a n cap ts w hh hn (fun t ht => by have := hs t ht; omega))
  rw [hv] at CG
  have OK := Lib.hid (ok_good hv hs)
  have WT := Lib.hid (show ([] : List GN).length + wtS ts + 1 ≤ 1000000 from by have h1 := wt_good ts OK.out.hi; have h2 := OK.out.n; simp; omega)
  have HL := hh.len
  have HH := Lib.hid hh
  have BW := Lib.hid hw
  clear hh hs hv hw
  subst HL
  go_enter Try.func15, Try.ntmps15
  go_wp2_with fail
  refine CG.out.mono ?_
  rintro e w1 ⟨rfl, hb⟩
  have B1 := Lib.hid hb
  have H1 := Lib.hid (HH.out.below hb)
  clear hb CG
  have B2 := Lib.hid (below_one w1 (.cells #[.slice none 0 0] 38))
  have Q2 := Lib.hid (show RQ w1.heap.size [] (w1.alloc (.cells #[.slice none 0 0] 38)) (fun k => k = w1.heap.size) (fun k => 0 < ts.length ∧ ∃ fo, a = some ⟨k, fo, none⟩) from
    ⟨none, 0, [], ⟨by rw [cell_alloc rfl]; rfl, fun i => frozen_alloc rfl, World.ownsRow_nil _ _ _ _, fun x hx => by simp at hx, fun x hx => by simp at hx, rfl, fun q e => (by cases e), fun k hk => (by rw [hk]; simp), fun k hk => by
      obtain ⟨h0, fo, e⟩ := hk
      obtain ⟨b, o, e2, hcc⟩ := H1.out.at h0
      rw [e] at e2
      injection e2 with e2; injection e2 with e2 e3
      have h1 := lt_of_cell (hcc 0 h0)
      subst e2
      have h2 : k < w1.heap.size := h1
      exact ⟨fun e4 => by omega, by simp; omega⟩⟩, rfl⟩)
  have CA := Lib.hid (add_any w1.heap.size 12 [] ts a cap _ _ _ Q2.out OK.out (H1.out.below B2.out) (fun h0 fb fo e => ⟨h0, fo, e⟩) hc WT.out)
  clear H1 HH hc
  go_wp2_with fail
  refine CA.out.mono ?_
  rintro e w3 ⟨rfl, S, F, hq, hs, hf, hu, ht⟩
  have FIN := Lib.hid (show CtxR w0 w3 w1.heap.size (grS ts) S F ∧ Below w.heap.size w w3 from by
    have hz := B1.out.size
    have hz0 := BW.out.size
    have hB3 : Below w.heap.size w w3 := (B1.out.trans (B2.out.mono hz)).trans (ht.below (fun k hk => by rw [hk]; exact hz) (Nat.le_trans hz B2.out.size))
    refine ⟨⟨hq, fun k hk => ?_, BW.out.trans (hB3.mono hz0)⟩, hB3⟩
    rcases hs k hk with h | h
    · rw [h]; omega
    · have := B2.out.size; omega)
  clear hq hs hf hu ht CA Q2 WT
  go_wp2_with fail
  go_ret2
  exact ⟨_, S, F, rfl, FIN.out.1, FIN.out.2⟩
set_option maxHeartbeats 800000 in
theorem rFinal_any (g : Nat) (st : List GN) (S F : Nat → Prop) (n : Int) (w : World) (h : RQ g st w S F) (hf : ∀ x ∈ st, x.final = finS x.rests) : Calls Try.prog 21 #[.pointer (some ⟨g, 0, none⟩), .int .i64 n] w fun e w' => e = .returned (.bool (finG st n)) ∧ w = w' := by
  by_cases h0 : n < 0
  · have e : finG st n = false := by unfold finG hasG; rw [decide_eq_false (by omega)]; rfl
    have d1 : decide (n ≥ (0 : Int)) = false := decide_eq_false (by omega)
    have E := Lib.hid e
    clear e
    go_enter Try.func21, Try.ntmps21
    go_wp2_with fail
    go_ret
    rw [E.out]
    exact ⟨rfl, rfl⟩
  obtain ⟨k, rfl⟩ : ∃ k : Nat, n = (k : Int) := ⟨n.toNat, by omega⟩
  have d1 : decide ((k : Int) ≥ (0 : Int)) = true := decide_eq_true (by omega)
  by_cases hk : k < st.length
  · obtain ⟨q, nc, ra, rc, ea, ec, c0, c1, c2, c3, c4, -⟩ := h.node hk
    have hx : st.getD k gn0 ∈ st := by rw [List.getD_eq_getElem?_getD, List.getElem?_eq_getElem hk]; simp
    have e : finG st (k : Int) = finS (st.getD k gn0).rests := by
      unfold finG hasG; rw [decide_eq_true (by omega), Int.toNat_natCast, hf _ hx]; rfl
    obtain ⟨l, hl⟩ : ∃ l, (st.getD k gn0).rests = l := ⟨_, rfl⟩
    rw [hl] at c1 c3 e
    have d2 : decide ((k : Int) < (st.length : Int)) = true := decide_eq_true (by omega)
    have i1 : (0 : Int) ≤ (k : Int) := by omega
    have i2 : (k : Int) < (st.length : Int) := by omega
    have E := Lib.hid e
    clear e hl hx c2 c4 h hf h0
    rcases Nat.eq_zero_or_pos l.length with hz | hz
    · have hl0 : l = [] := List.eq_nil_of_length_eq_zero hz
      subst hl0
      simp only [List.length_nil] at c1
      go_enter Try.func21, Try.ntmps21
      go_wp2_with fail
      go_ret
      rw [E.out]
      exact ⟨rfl, rfl⟩
    · obtain ⟨b, o, rfl, hc⟩ := c3.at hz
      have x0 := hc 0 hz
      obtain ⟨t, ht⟩ : ∃ t, l.getD 0 ByteArray.empty = t := ⟨_, rfl⟩
      rw [ht, Nat.add_zero] at x0
      have d3 : decide ((l.length : Int) > (0 : Int)) = true := decide_eq_true (by omega)
      have i3 : (0 : Int) < (l.length : Int) := by omega
      obtain ⟨zf, hzf⟩ : ∃ z, t.toList.isEmpty = z := ⟨_, rfl⟩
      have hzt2 : (t.toList == []) = zf := by rw [← hzf]; cases t.toList <;> rfl
      have hfz : finS l = zf := by
        rw [← hzf]
        have hs2 : l.head? = some t := by
          cases hs3 : l with
          | nil => rw [hs3] at hz; simp at hz
          | cons t' l' => rw [hs3] at ht; simp at ht; simp [ht]
        unfold finS
        rw [hs2, Bool.eq_iff_iff]
        simp only [decide_eq_true_eq, List.isEmpty_iff]
        constructor
        · intro h; exact (tx_nil t).1 (by injection h)
        · intro h; rw [(tx_nil t).2 h]
      have EZ := Lib.hid (show finG st (k : Int) = zf from by rw [E.out, hfz])
      clear hfz ht hc c3 E
      generalize l.length = m at *
      go_enter Try.func21, Try.ntmps21
      go_wp2_with fail
      go_ret
      rw [EZ.out]
      exact ⟨by first | rfl | (rw [hzt2]; rfl) | (rw [hzf]; rfl) | rw [hzt2] | rw [hzf], rfl⟩
  · obtain ⟨na, nc, c0⟩ := h.len
    have e : finG st (k : Int) = false := by unfold finG hasG; rw [decide_eq_false (by omega)]; rfl
    have d2 : decide ((k : Int) < (st.length : Int)) = false := decide_eq_false (by omega)
    have E := Lib.hid e
    clear e
    go_enter Try.func21, Try.ntmps21
    go_wp2_with fail
    go_ret
    rw [E.out]
    exact ⟨rfl, rfl⟩
set_option maxHeartbeats 800000 in
theorem rEdges_any (g : Nat) (st : List GN) (S F : Nat → Prop) (n : Int) (w : World) (h : RQ g st w S F) (hE : ∀ x ∈ st, x.edges.length ≤ 1000) : Calls Try.prog 23 #[.pointer (some ⟨g, 0, none⟩), .int .i64 n] w (RetEd w (edgesG st n)) := by
  unfold edgesG
  by_cases h0 : n < 0
  · have e : hasG st n = false := decide_eq_false (by omega)
    have d1 : decide (n < (0 : Int)) = true := decide_eq_true h0
    rw [e, if_neg (by simp)]
    go_enter Try.func23, Try.ntmps23
    go_wp2_with fail
    go_ret
    exact retEd_own rfl (World.ownsRow_nil _ _ _ _) (Below.refl _ _) _ rfl
  obtain ⟨k, rfl⟩ : ∃ k : Nat, n = (k : Int) := ⟨n.toNat, by omega⟩
  have d1 : decide ((k : Int) < (0 : Int)) = false := decide_eq_false (by omega)
  by_cases hk : k < st.length
  · obtain ⟨i0, hi, hz0, hz1, hz2⟩ := info_parts edgeG_info
    obtain ⟨q, nc, ra, rc, ea, ec, c0, c1, c2, c3, c4, c5⟩ := h.node hk
    have hx : st.getD k gn0 ∈ st := by rw [List.getD_eq_getElem?_getD, List.getElem?_eq_getElem hk]; simp
    have hle := hE _ hx
    have e : hasG st (k : Int) = true := decide_eq_true (by omega)
    rw [e, if_pos rfl, Int.toNat_natCast]
    obtain ⟨es, hes⟩ : ∃ b, (st.getD k gn0).edges = b := ⟨_, rfl⟩
    rw [hes] at c2 c4 c5 hle ⊢
    have d2 : decide ((k : Int) ≥ (st.length : Int)) = false := decide_eq_false (by omega)
    have d3 : decide ((st.length : Int) ≤ (k : Int)) = false := decide_eq_false (by omega)
    have i1 : (0 : Int) ≤ (k : Int) := by omega
    have i2 : (k : Int) < (st.length : Int) := by omega
    obtain ⟨m, hm⟩ : ∃ m, es.length = m := ⟨_, rfl⟩
    rw [hm] at c2 c4 c5 hle
    have HN := Lib.hid (HoldsEd.cellsAt c4)
    have HM := Lib.hid hm
    have H5 := Lib.hid c5
    clear hes hx c1 c3 c4 e h hE c5 hm
    go_enter Try.func23, Try.ntmps23
    go_wp2_with (at_builtin; refine wpList_append_any rfl (.const (.slice none 0 0)) (.tmp 23) 39 rfl w.heap.size 61 i0 _ 2 16 Try.underlying39 hi hz0 hz1 hz2 rfl (by decide) _ 0 [] rfl (World.ownsRow_nil _ _ _ _) _ m ec (edsV es) rfl H5.out (by rw [edsV_len, HM.out]) HN.out (edsV_one _) (by unfold maxLen; omega) (by omega) (Nat.le_refl _) ?_; intro a3 c3 w3 hown3 hb3 hnil3)
    rw [Nat.zero_add, List.nil_append] at hown3
    go_ret
    exact retEd_own HM.out hown3 hb3 _ (by simp)
  · obtain ⟨na, nc, c0⟩ := h.len
    have e : hasG st (k : Int) = false := decide_eq_false (by omega)
    have d2 : decide ((k : Int) ≥ (st.length : Int)) = true := decide_eq_true (by omega)
    have d3 : decide ((st.length : Int) ≤ (k : Int)) = true := decide_eq_true (by omega)
    rw [e, if_neg (by simp)]
    go_enter Try.func23, Try.ntmps23
    go_wp2_with fail
    go_ret
    exact retEd_own rfl (World.ownsRow_nil _ _ _ _) (Below.refl _ _) _ rfl
end Go.Proofs.Ytmmliepkcgdnlaa
/- the document's graph: Next, From -/
namespace Go.Proofs.Ytmmliepkcgdnlaa
open Go.RowKit
set_option linter.unusedVariables false
set_option maxRecDepth 20000
set_option maxHeartbeats 800000 in
theorem rNext_any (g : Nat) (st : List GN) (S F : Nat → Prop) (n r : Int) (w : World) (h : RQ g st w S F) (hE : ∀ x ∈ st, x.edges.length ≤ 1000) (v1 : Int) (v2 : Bool) (hv : nextG st n r = (v1, v2)) :
    Calls Try.prog 26 #[.pointer (some ⟨g, 0, none⟩), .int .i64 n, .int .i32 r] w fun e w' => e = .returned (.tuple #[.int .i64 v1, .bool v2]) ∧ Below w.heap.size w w' := by
  have CE := rEdges_any g st S F n w h hE
  have HV := Lib.hid hv
  unfold nextG at HV
  obtain ⟨es, hes⟩ : ∃ l, edgesG st n = l := ⟨_, rfl⟩
  have hle : es.length ≤ 1000 := by
    rw [← hes]; unfold edgesG
    split
    · rename_i hb
      obtain ⟨k, rfl, hk⟩ := hasG_yes hb
      exact hE _ (by rw [Int.toNat_natCast, List.getD_eq_getElem?_getD, List.getElem?_eq_getElem hk]; simp)
    · simp
  rw [hes] at CE HV
  unfold RetEd at CE
  obtain ⟨m, hm⟩ : ∃ m, es.length = m := ⟨_, rfl⟩
  rw [hm] at CE hle
  have HM := Lib.hid hm
  have C1 := Lib.hid CE
  clear hes hm CE h hE hv
  go_enter Try.func26, Try.ntmps26
  go_wp2_with fail
  refine C1.out.mono ?_
  rintro e w1 ⟨ea, ec, rfl, ho, hb⟩
  have HO := Lib.hid (HoldsEd.own ho)
  have B1 := Lib.hid hb
  clear ho hb C1
  go_wp2_with fail
  go_loopw [9] (fun iv wr => ∃ (j : Nat), j ≤ m ∧ iv = .int .i64 j ∧ Hid (∀ x ∈ es.take j, x.r ≠ r) ∧ wr = w1) (fun iv _ => m - (intOf iv).toNat)
  case atStart => exact ⟨0, by omega, rfl, Lib.hid (by simp), rfl⟩
  case round =>
    obtain ⟨j, hj, rfl, HA, rfl⟩ := hrel
    by_cases hlt : j < m
    · obtain ⟨b, o, rfl, hc⟩ := HO.out.at (by omega)
      have x0 := hc j hlt
      obtain ⟨ed, hed⟩ : ∃ t, es.getD j ed0 = t := ⟨_, rfl⟩
      rw [hed] at x0
      obtain ⟨x1, x2⟩ := x0
      have n1 : (0 : Int) ≤ (j : Int) := by omega
      have n2 : (j : Int) < (m : Int) := by omega
      by_cases hr : ed.r = r
      · have HF := Lib.hid (show (v1, v2) = (ed.dst, true) from by
          rw [← HV.out, ← hed]; exact findE_at r es j (by have := HM.out; omega) HA.out (by rw [hed]; exact hr))
        have he : (ed.r == r) = true := by simpa using hr
        clear hc hed hr
        go_wp2_with fail
        go_ret2
        have h1 := HF.out
        injection h1 with h1 h2
        subst h1 h2
        exact ⟨rfl, B1.out⟩
      · have HB := Lib.hid (show ∀ x ∈ es.take (j + 1), x.r ≠ r from by
          intro x hx
          rw [take_ed es j (by have := HM.out; omega)] at hx
          rcases List.mem_append.1 hx with hx | hx
          · exact HA.out x hx
          · simp only [List.mem_singleton] at hx; rw [hx, hed]; exact hr)
        have he : (ed.r == r) = false := by simpa using hr
        clear hc hed hr
        go_wp2_with fail
        go_roundw
        case rel => exact ⟨j + 1, by omega, by go_num, HB, (by first | rfl | trivial)⟩
        case measure => simp [intOf] <;> omega
    · obtain rfl : j = m := by omega
      have HF := Lib.hid (show (v1, v2) = ((0 : Int), false) from by
        rw [← HV.out]
        have h1 := HA.out
        rw [List.take_of_length_le (by have := HM.out; omega)] at h1
        exact findE_none r es h1)
      go_wp2_with fail
      go_ret2
      have h1 := HF.out
      injection h1 with h1 h2
      subst h1 h2
      exact ⟨rfl, B1.out⟩
theorem from_stop (l m : List Tx) (lo : Tx) (most : Int) (h : most ≤ ((fromL l lo most).length : Int)) : fromL (l ++ m) lo most = fromL l lo most := by
  unfold fromL at *
  rw [List.filter_append]
  have h1 := List.length_take (i := most.toNat) (l := l.filter (fun t => !decide (cmpS t lo < 0)))
  rw [List.take_append_of_le_length (by omega)]
theorem from_snoc (l : List Tx) (x lo : Tx) (most : Int) (h : ((fromL l lo most).length : Int) < most) : fromL (l ++ [x]) lo most = if cmpS x lo < 0 then fromL l lo most else fromL l lo most ++ [x] := by
  unfold fromL at *
  have h1 := List.length_take (i := most.toNat) (l := l.filter (fun t => !decide (cmpS t lo < 0)))
  rw [List.filter_append]
  by_cases hc : cmpS x lo < 0
  · rw [if_pos hc]; simp [hc]
  · rw [if_neg hc, List.take_of_length_le (l := l.filter _) (by omega), List.take_of_length_le]
    · simp [hc]
    · simp [hc]; omega
set_option maxHeartbeats 1600000 in
set_option maxRecDepth 100000 in
theorem rFrom_any (g : Nat) (st : List GN) (ts : List Tx) (G : GOk st ts) (S F : Nat → Prop) (lo : Tx) (most : Int) (w : World) (h : RQ g st w S F) (hlo : lo.size ≤ 1048576) :
    Calls Try.prog 31 #[.pointer (some ⟨g, 0, none⟩), .string lo, .int .i64 most] w (RetTx w (fromL ts lo most)) := by
  obtain ⟨k0, hk, hx0, hx1, hx2⟩ := info_parts str_info
  obtain ⟨g0, g1, g2⟩ := G.node G.root
  have hn100 := g2.ok.n
  rw [g1] at hn100
  have TZ := Lib.hid (show ∀ t ∈ ts, t.size ≤ 100 from by have := g2.ok.sz; rwa [g1] at this)
  obtain ⟨n, hn⟩ : ∃ n, ts.length = n := ⟨_, rfl⟩
  rw [hn] at hn100
  obtain ⟨L, hL⟩ : ∃ L, st.length = L := ⟨_, rfl⟩
  have ND := Lib.hid (show ∀ w', Below w.heap.size w w' → ∃ q nc ra rc, w'.cell? ⟨g, 0, none⟩ = some (.slice (some ⟨q, 0, none⟩) L nc) ∧ w'.cell? ⟨q, 0, none⟩ = some (.slice ra n rc) ∧ HoldsT w' ra n ts from fun w' hb => by
    obtain ⟨q, nc, ra, rc, ea, ec, c0, c1, -, c3, -, -⟩ := (h.below hb).node g0
    rw [g1, hn] at c1 c3
    rw [hL] at c0
    rw [Nat.zero_mul] at c1
    exact ⟨q, nc, ra, rc, c0, c1, c3⟩)
  have HN := Lib.hid hn
  have l0 : (0 : Int) < (L : Int) := by omega
  clear g0 g1 g2 h G hn hL
  go_enter Try.func31, Try.ntmps31
  go_wp2_with fail
  go_loopw [7, 8] (fun ov iv wr => ∃ (j : Nat) (oa : Option Addr) (oc on : Nat) (out : List Tx), j ≤ n ∧ Hid (on = out.length) ∧ on ≤ j ∧ ov = .slice oa on oc ∧ iv = .int .i64 j ∧ Hid (out = fromL (ts.take j) lo most) ∧ Hid (FS w.heap.size w (fun _ => False) oa oc out wr)) (fun _ iv _ => n - (intOf iv).toNat)
  case atStart => exact ⟨0, none, 0, 0, [], by omega, Lib.hid rfl, by omega, rfl, rfl, Lib.hid (by simp [fromL]), Lib.hid (FS.start w)⟩
  case round =>
    obtain ⟨j, oa, oc, on, out, hj, hon, honj, rfl, rfl, hO, hF⟩ := hrel
    obtain ⟨q, nc, ra, rc, c0, c1, hh⟩ := ND.out wr hF.out.b
    by_cases hlt : j < n
    · have d1 : decide ((j : Int) < (n : Int)) = true := decide_eq_true (by omega)
      have d1' : decide (j < n) = true := decide_eq_true hlt
      by_cases hst : (on : Int) < most
      · have d2 : decide ((on : Int) < most) = true := decide_eq_true hst
        obtain ⟨b, o, rfl, hcc⟩ := hh.at (by omega)
        have x0 := hcc j hlt
        obtain ⟨t, ht⟩ : ∃ t, ts.getD j ByteArray.empty = t := ⟨_, rfl⟩
        rw [ht] at x0
        have htm : t ∈ ts := by rw [← ht]; exact getD_tx (by rw [HN.out]; exact hlt)
        have CC := Lib.hid (rcompare_any t lo wr (by have := TZ.out t htm; omega) hlo)
        have XC := Lib.hid (fun w5 (hb : Below wr.heap.size wr w5) => (hb.cell (p := ⟨b, o + j, none⟩) (lt_of_cell x0)).trans x0)
        have XG := Lib.hid (fun w5 (hb : Below wr.heap.size wr w5) => (hb.cell (p := ⟨g, 0, none⟩) (lt_of_cell c0)).trans c0)
        have XQ := Lib.hid (fun w5 (hb : Below wr.heap.size wr w5) => (hb.cell (p := ⟨q, 0, none⟩) (lt_of_cell c1)).trans c1)
        have SN := Lib.hid (show fromL (ts.take (j + 1)) lo most = if cmpS t lo < 0 then out else out ++ [t] from by
          rw [take_txP2 ts j (by rw [HN.out]; exact hlt), ht, from_snoc _ _ _ _ (by rw [← hO.out, ← hon.out]; exact hst), ← hO.out])
        obtain ⟨c, hc⟩ : ∃ c, cmpS t lo = c := ⟨_, rfl⟩
        rw [hc] at CC SN
        have n1 : (0 : Int) ≤ (j : Int) := by omega
        have n2 : (j : Int) < (n : Int) := by omega
        clear hcc ht htm hh hc
        by_cases hc0 : c < 0
        · have d3 : decide (c ≥ (0 : Int)) = false := decide_eq_false (by omega)
          go_wp2_with fail
          refine CC.out.mono ?_
          rintro e w5 ⟨rfl, hb⟩
          have F5 := Lib.hid (hF.out.more hb)
          clear hb
          go_wp2_with fail
          go_roundw
          case rel => exact ⟨j + 1, oa, oc, on, out, by omega, hon, by omega, rfl, by go_num, Lib.hid (by rw [SN.out, if_pos hc0]), F5⟩
          case measure => simp [intOf] <;> omega
        · have d3 : decide (c ≥ (0 : Int)) = true := decide_eq_true (by omega)
          go_wp2_with fail
          refine CC.out.mono ?_
          rintro e w5 ⟨rfl, hb⟩
          have F5 := Lib.hid (hF.out.more hb)
          have x5 := XC.out w5 hb
          have y5 := XG.out w5 hb
          have z5 := XQ.out w5 hb
          have hbl := F5.out.bl
          have hos : out.length ≤ 100 := by rw [← hon.out]; omega
          clear hb CC XC XG XQ c0 c1 x0
          have hon2 := hon.out
          subst hon2
          clear hon
          go_wp2_with (at_builtin; refine wpList_append_lies _ rfl (.tmp 40) (.tmp 51) 22 rfl w.heap.size 9 k0 _ 1 16 Try.underlying22 hk hx0 hx1 hx2 rfl (by omega) (.slice oa out.length oc) out.length (strsV out) (by rfl) (F5.out.o.alloc _) ⟨w5.heap.size, 0, none⟩ 1 1 [.string t] (by rfl) (by rfl) (World.news_of_block (cs := #[.string t]) (t := 9) (fr := (0, 0)) (heap_alloc_new w5 _)) (by simp [Value.oneCell']) (by omega) (by unfold maxLen; omega) (by omega) (by simp; omega) (w5.heap.size + 1) (by simp) ?_; intro g3 c3' w8 hown3 hgrow3 hat3 hlt3; have GR := Lib.hid (F5.out.grow hown3 hgrow3 (hat3.imp id (fun e => by simp; exact e))); clear hown3 hgrow3 hat3 hlt3)
          go_roundw
          case rel => exact ⟨j + 1, some ⟨g3, 0, none⟩, c3', out.length + 1, out ++ [t], by omega, Lib.hid (by simp), by omega, rfl, by go_num, Lib.hid (by rw [SN.out, if_neg (by omega)]), Lib.hid GR.out.1⟩
          case measure => simp [intOf] <;> omega
      · have d2 : decide ((on : Int) < most) = false := decide_eq_false hst
        have FE := Lib.hid (show out = fromL ts lo most from by
          have h1 := from_stop (ts.take j) (ts.drop j) lo most (by rw [← hO.out, ← hon.out]; omega)
          rw [List.take_append_drop] at h1
          rw [h1, hO.out])
        go_wp2_with fail
        go_ret
        have h1 := FE.out
        have h2 := hon.out
        subst h2
        rw [← h1]
        exact ⟨oa, oc, rfl, hF.out.o, hF.out.b⟩
    · obtain rfl : j = n := by omega
      have FE := Lib.hid (show out = fromL ts lo most from by
        rw [hO.out, List.take_of_length_le (by rw [HN.out]; omega)])
      go_wp2_with fail
      go_ret
      have h1 := FE.out
      have h2 := hon.out
      subst h2
      rw [← h1]
      exact ⟨oa, oc, rfl, hF.out.o, hF.out.b⟩
end Go.Proofs.Ytmmliepkcgdnlaa
