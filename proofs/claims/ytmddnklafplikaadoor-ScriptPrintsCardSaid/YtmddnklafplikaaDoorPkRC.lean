/- texts joined -/
import Derived.Shelf.Strings.Builder1
import Derived.Shelf.Strings.BuilderK
import Derived.Test.YtmddnklafplikaaDoorChecked
import Derived.WalkLawsBesides
import Derived.Outline
import Derived.Lib.Hide
import Derived.WalkKit
import Derived.ProofKit
import Derived.OpenShut
import Derived.Lib.SmallJoins
import Derived.Laws.RangeAny
import Derived.Lib.DecodeN
import Derived.Lib.ConvBytes
import Derived.Laws.Rows
import Derived.Lib.ItoaNum
import Derived.Lib.Split
import Derived.Lib.Join
import Derived.Deep.Slices
import Derived.OwnWalk
import Derived.Laws.AppendOwnNone
import Derived.WalkSpells
import Derived.Deep.QuietTactic
import Derived.BigQuiet
import Derived.Deep.DeepCutAuto
import Derived.Sort.Walk0
import Derived.SliceStrings
import Derived.Shelf.Small.Strs
import Derived.Lib.OthersKept
import Derived.WalkSmall
import Derived.Shelf.Strings.Split
import Derived.Shelf.Strings.Prefix
import Derived.Lib.SplitLaws
import Derived.Shelf.Strings.OnBuilder
import Derived.Deep.RegionWith
import Derived.BigRegion
import Derived.Shelf.Strconv.Itoa3
import Derived.Deep.RegionHeld3
import Derived.Deep.RegionLaw
import Derived.Deep.AppendLies
import Derived.Deep.MidRow
import Derived.BigGuard
import Derived.Shelf.Vars
import Derived.Laws.IdiomStrings
import Derived.Lib.AppendStr
import Derived.Lib.UnsafeStr
import Derived.LaidSub
import Derived.KernelRfl
import Derived.Test.YtmddnklafplikaaDoorPkRB
namespace Go.Proofs.YtmddnklafplikaaDoor
open Go.RowKit
set_option linter.unusedVariables false
set_option maxRecDepth 20000
def ab29 : Tx := { data := #[97, 98] }
def a29 : Tx := { data := #[97] }
def e0_29 : Tx := { data := #[] }
def lit1 : ByteArray := { data := #[119, 111, 114, 100, 32, 34, 97, 98, 34, 10, 99, 117, 116, 32, 50, 32, 34, 34, 10, 101, 118, 32, 52, 32, 49, 32, 48, 32, 48, 10, 97, 115, 107, 32, 34, 97, 34, 32, 49, 32, 50, 10] }
def lit2 : ByteArray := { data := #[119, 111, 114, 100, 32, 34, 97, 98, 34, 10, 101, 118, 32, 49, 32, 48, 32, 48, 32, 48] }
def st29 : PS := ⟨[ab29], [(2, e0_29)], [0, 0, 0, 0, 0, 0, 0, 0, 0, 0], [⟨4, 1, 0, 0, e0_29, 0, 0⟩, ⟨1, 0, 0, 0, a29, 1, 2⟩]⟩
theorem dec1 (i : Nat) (h : i < 10) : decI (i : Int) = [UInt8.ofNat (48 + i)] := by unfold decI; rw [Int.toNat_natCast]; exact Lib.decDigits_one h
theorem d0 : decI 0 = [48] := dec1 0 (by omega)
theorem d1 : decI 1 = [49] := dec1 1 (by omega)
theorem d2 : decI 2 = [50] := dec1 2 (by omega)
theorem d4 : decI 4 = [52] := dec1 4 (by omega)
theorem ln1 (st : PS) : lineF st [119, 111, 114, 100, 32, 34, 97, 98, 34] = some { st with ws := st.ws ++ [ab29] } := by
  have h := line_word st ab29
  rwa [show lineB (wordQ ab29) = [119, 111, 114, 100, 32, 34, 97, 98, 34] from by decide] at h
theorem ln2 (st : PS) : lineF st [99, 117, 116, 32, 50, 32, 34, 34] = some { st with ks := st.ks ++ [(2, e0_29)] } := by
  have h := line_cut st (2, e0_29) (by decide)
  rwa [show lineB (cutQ (2, e0_29)) = [99, 117, 116, 32, 50, 32, 34, 34] from by unfold lineB cutQ; simp only [d2]; decide] at h
theorem ln3 (st : PS) : lineF st [101, 118, 32, 52, 32, 49, 32, 48, 32, 48] = some { st with es := st.es ++ [⟨4, 1, 0, 0, e0_29, 0, 0⟩] } := by
  have h := line_ev st ⟨4, 1, 0, 0, e0_29, 0, 0⟩ (by decide)
  rwa [show lineB (evQ ⟨4, 1, 0, 0, e0_29, 0, 0⟩) = [101, 118, 32, 52, 32, 49, 32, 48, 32, 48] from by unfold lineB evQ nosEv; rw [if_neg (by decide)]; simp only [List.map_cons, List.map_nil, d0, d1, d4]; decide] at h
theorem ln4 (st : PS) : lineF st [97, 115, 107, 32, 34, 97, 34, 32, 49, 32, 50] = some { st with es := st.es ++ [⟨1, 0, 0, 0, a29, 1, 2⟩] } := by
  have h := line_ev st ⟨1, 0, 0, 0, a29, 1, 2⟩ (by decide)
  rwa [show lineB (evQ ⟨1, 0, 0, 0, a29, 1, 2⟩) = [97, 115, 107, 32, 34, 97, 34, 32, 49, 32, 50] from by unfold lineB evQ; rw [if_pos rfl]; simp only [d1, d2]; decide] at h
theorem ln5 (st : PS) : lineF st [101, 118, 32, 49, 32, 48, 32, 48, 32, 48] = none := by
  have ok : partOk (evB :: [1, 0, 0, 0].map decI) := ⟨by simp, fun p hp => by
    rcases List.mem_cons.1 hp with rfl | hp
    · decide
    · exact decs_ok [1, 0, 0, 0] p hp⟩
  have h := lineF_parts st evB ([1, 0, 0, 0].map decI) ok
  rw [show lineB (evB :: [1, 0, 0, 0].map decI) = [101, 118, 32, 49, 32, 48, 32, 48, 32, 48] from by unfold lineB; simp only [List.map_cons, List.map_nil, d0, d1]; decide] at h
  rw [h]
  unfold partsF
  rw [if_neg (by decide), if_neg (by decide), if_neg (by decide), if_pos rfl]
  unfold evF numsK
  rw [if_pos (by simp), numsO_dec [1, 0, 0, 0] (by decide)]
  rfl
theorem parse1 : parseF lit1.data.toList = (st29, 0, 0) := by
  refine parse_ok (by decide) ?_
  rw [show linesL lit1.data.toList = [[119, 111, 114, 100, 32, 34, 97, 98, 34], [99, 117, 116, 32, 50, 32, 34, 34], [101, 118, 32, 52, 32, 49, 32, 48, 32, 48], [97, 115, 107, 32, 34, 97, 34, 32, 49, 32, 50]] from by decide]
  rw [readF_yes (ln1 _), readF_yes (ln2 _), readF_yes (ln3 _), readF_yes (ln4 _)]
  rfl
theorem parse2 : parseF lit2.data.toList = (ps0, 2, 11) := by
  refine parse_bad (by decide) ?_
  rw [show linesL lit2.data.toList = [[119, 111, 114, 100, 32, 34, 97, 98, 34], [101, 118, 32, 49, 32, 48, 32, 48, 32, 48]] from by decide]
  rw [readF_yes (ln1 _), readF_no (ln5 _)]
theorem quote_ab : quoS { data := #[97, 32, 98] } = { data := #[34, 97, 92, 50, 48, 98, 34] } := by
  apply ByteArray.ext; apply Array.toList_inj.1
  show quoL [97, 32, 98] = _
  decide
theorem parP1 {w w' : World} {e : Ending} (h : ParP w (st29, 0, 0) e w') : ∃ wa ka ea wc kc ec, e = .returned (.tuple #[.agg #[.slice wa 1 wc, .slice ka 1 kc, .int .i64 0, .int .i64 0, .int .i64 0, .int .i64 0, .int .i64 0, .int .i64 0, .int .i64 0, .int .i64 0, .int .i64 0, .int .i64 0], .slice ea 2 ec, .int .i64 0, .int .i64 0]) ∧ HoldsT w' wa 1 [ab29] ∧ HoldsEv w' ea 2 [⟨4, 1, 0, 0, e0_29, 0, 0⟩, ⟨1, 0, 0, 0, a29, 1, 2⟩] ∧ Below w.heap.size w w' := by
  obtain ⟨wa, ka, ea, wc, kc, ec, he, hp, hb⟩ := h
  exact ⟨wa, ka, ea, wc, kc, ec, he, HoldsT.own hp.rw, HoldsEv.own hp.re, hb⟩
theorem parP2 {w w' : World} {e : Ending} (h : ParP w (ps0, 2, 11) e w') : ∃ wa ka ea wc kc ec, e = .returned (.tuple #[.agg #[.slice wa 0 wc, .slice ka 0 kc, .int .i64 0, .int .i64 0, .int .i64 0, .int .i64 0, .int .i64 0, .int .i64 0, .int .i64 0, .int .i64 0, .int .i64 0, .int .i64 0], .slice ea 0 ec, .int .i64 2, .int .i64 11]) ∧ Below w.heap.size w w' := by
  obtain ⟨wa, ka, ea, wc, kc, ec, he, hp, hb⟩ := h
  exact ⟨wa, ka, ea, wc, kc, ec, he, hb⟩
theorem holdsT_one (w : World) (t : Tx) (e : TypeId) (fr : Nat × Nat) : HoldsT (w.alloc (.cells #[.string t] e fr)) (some ⟨w.heap.size, 0, none⟩) 1 [t] := HoldsT.of rfl fun i hi => by
  obtain rfl : i = 0 := by omega
  rw [World.cell?_alloc_mark]; rfl
theorem holdsEv_two (w : World) (e : TypeId) (fr : Nat × Nat) : HoldsEv (w.alloc (.cells #[.int .i64 4, .int .i64 1, .int .i64 0, .int .i64 0, .string { data := #[] }, .int .i64 0, .int .i64 0, .int .i64 1, .int .i64 0, .int .i64 0, .int .i64 0, .string { data := #[97] }, .int .i64 1, .int .i64 2] e fr)) (some ⟨w.heap.size, 0, none⟩) 2 [⟨4, 1, 0, 0, e0_29, 0, 0⟩, ⟨1, 0, 0, 0, a29, 1, 2⟩] := by
  refine ⟨rfl, fun _ => ⟨_, 0, rfl, fun i hi => ?_⟩⟩
  simp only [World.cell?_alloc_mark]
  match i, hi with
  | 0, _ => exact ⟨rfl, rfl, rfl, rfl, rfl, rfl, rfl⟩
  | 1, _ => exact ⟨rfl, rfl, rfl, rfl, rfl, rfl, rfl⟩
set_option maxRecDepth 100000 in
set_option maxHeartbeats 1600000 in
theorem awake29_any (w : World) (hm : MaxL w) : Calls Tryd.prog 8 #[] w fun e w' => e = .returned (.bool true) ∧ Below w.heap.size w w' := by
  have C1 := Lib.hid (fun w' (h : MaxL w') => parse_any lit1 w' (by decide) h)
  have C2 := Lib.hid (fun w' (h : MaxL w') => parse_any lit2 w' (by decide) h)
  rw [parse1] at C1
  rw [parse2] at C2
  have CQ := Lib.hid (fun w => quote_any { data := #[97, 32, 98] } w (by decide))
  rw [quote_ab] at CQ
  have HM := Lib.hid hm
  unfold lit1 at C1
  unfold lit2 at C2
  clear hm
  go_enter Tryd.func8, Tryd.ntmps8
  go_wp2_with fail
  refine (C1.out _ HM.out).mono ?_
  intro e w1 h1
  obtain ⟨wa, ka, ea, wc, kc, ec, rfl, hT, hE, hb1⟩ := parP1 h1
  have B1 := Lib.hid hb1
  have M1 := Lib.hid (HM.out.below hb1 (Nat.le_refl _))
  have HT := Lib.hid hT; have HE := Lib.hid hE
  clear h1 hb1 hT hE
  go_upto_region 2 with fail
  have A2 := Lib.hid (below_one w1 (.cells #[.slice wa 1 wc, .slice ka 1 kc, .int .i64 0, .int .i64 0, .int .i64 0, .int .i64 0, .int .i64 0, .int .i64 0, .int .i64 0, .int .i64 0, .int .i64 0, .int .i64 0] 30))
  have c0 : (w1.alloc (.cells #[.slice wa 1 wc, .slice ka 1 kc, .int .i64 0, .int .i64 0, .int .i64 0, .int .i64 0, .int .i64 0, .int .i64 0, .int .i64 0, .int .i64 0, .int .i64 0, .int .i64 0] 30)).cell? ⟨w1.heap.size, 0, none⟩ = some (.slice wa 1 wc) := by rw [World.cell?_alloc_mark]; rfl
  obtain ⟨q, hq⟩ : ∃ q, w1.heap.size = q := ⟨_, rfl⟩
  generalize w1.alloc (.cells #[.slice wa 1 wc, .slice ka 1 kc, .int .i64 0, .int .i64 0, .int .i64 0, .int .i64 0, .int .i64 0, .int .i64 0, .int .i64 0, .int .i64 0, .int .i64 0, .int .i64 0] 30) = w2 at *
  have B2 := Lib.hid (B1.out.trans (A2.out.mono B1.out.size))
  have HT2 := Lib.hid (HT.out.below A2.out)
  have HE2 := Lib.hid (HE.out.below A2.out)
  have M2 := Lib.hid (M1.out.below A2.out (Nat.le_refl _))
  rw [hq] at c0 ⊢
  clear HT HE M1 B1 A2 hq
  go_wp2_with fail
  refine (C2.out _ M2.out).mono ?_
  intro e w3 h3
  obtain ⟨va, la, fa, vc, lc, fc, rfl, hb3⟩ := parP2 h3
  have c1 := (hb3.cell (p := ⟨q, 0, none⟩) (lt_of_cell c0)).trans c0
  have B3 := Lib.hid (B2.out.trans (hb3.mono B2.out.size))
  have HT3 := Lib.hid (HT2.out.below hb3)
  have HE3 := Lib.hid (HE2.out.below hb3)
  clear h3 hb3 c0 HT2 HE2 M2 B2
  go_upto_region 3 with fail
  have A4 := Lib.hid (below_one w3 (.cells #[.slice va 0 vc, .slice la 0 lc, .int .i64 0, .int .i64 0, .int .i64 0, .int .i64 0, .int .i64 0, .int .i64 0, .int .i64 0, .int .i64 0, .int .i64 0, .int .i64 0] 30))
  obtain ⟨q3, hq3⟩ : ∃ q, w3.heap.size = q := ⟨_, rfl⟩
  generalize w3.alloc (.cells #[.slice va 0 vc, .slice la 0 lc, .int .i64 0, .int .i64 0, .int .i64 0, .int .i64 0, .int .i64 0, .int .i64 0, .int .i64 0, .int .i64 0, .int .i64 0, .int .i64 0] 30) = w4 at *
  have c2 := (A4.out.cell (p := ⟨q, 0, none⟩) (lt_of_cell c1)).trans c1
  have B4 := Lib.hid (B3.out.trans (A4.out.mono B3.out.size))
  have HT4 := Lib.hid (HT3.out.below A4.out)
  have HE4 := Lib.hid (HE3.out.below A4.out)
  rw [hq3]
  clear c1 HT3 HE3 B3 A4 hq3
  have CT := Lib.hid (sameTexts_yes wa (some ⟨w4.heap.size, 0, none⟩) 1 wc 1 [ab29] _ (HT4.out.below (below_one w4 (.cells #[.string ab29] 9))) (holdsT_one w4 ab29 9 (0, 0)) (by omega))
  unfold ab29 at CT
  go_wp2_with fail
  refine CT.out.mono ?_
  rintro e w5 ⟨rfl, hb5⟩
  have B5 := Lib.hid ((B4.out.trans ((below_one w4 _).mono B4.out.size)).trans (hb5.mono (Nat.le_trans B4.out.size (below_one w4 _).size)))
  have HE5 := Lib.hid ((HE4.out.below (below_one w4 _)).below hb5)
  clear hb5 CT HT4 HE4 c2
  have CE := Lib.hid (sameEvents_yes ea (some ⟨w5.heap.size, 0, none⟩) 2 ec 2 _ _ (HE5.out.below (below_one w5 (.cells #[.int .i64 4, .int .i64 1, .int .i64 0, .int .i64 0, .string { data := #[] }, .int .i64 0, .int .i64 0, .int .i64 1, .int .i64 0, .int .i64 0, .int .i64 0, .string { data := #[97] }, .int .i64 1, .int .i64 2] 50))) (holdsEv_two w5 50 (0, 0)) (by omega))
  go_wp2_with fail
  refine CE.out.mono ?_
  rintro e w6 ⟨rfl, hb6⟩
  have B6 := Lib.hid ((B5.out.trans ((below_one w5 _).mono B5.out.size)).trans (hb6.mono (Nat.le_trans B5.out.size (below_one w5 _).size)))
  clear hb6 CE HE5
  go_wp2_with fail
  refine (CQ.out _).mono ?_
  rintro e w7 ⟨rfl, hb7⟩
  have B7 := Lib.hid (B6.out.trans (hb7.mono B6.out.size))
  clear hb7
  go_wp2_with fail
  go_ret
  exact ⟨rfl, B7.out⟩
end Go.Proofs.YtmddnklafplikaaDoor
namespace Go.Proofs.YtmddnklafplikaaDoor
open Go.RowKit
set_option linter.unusedVariables false
set_option maxRecDepth 20000
open Go.ChangeShapes Go.WideShapes Go.ChangeAt in
theorem maxL_of {W : World} (h : W.ShapedOpen Tryd.prog) : MaxL W :=
  cell_of_shapedOpen_int (g := 0) (t := 3) (zero := #[.int .i64 0]) (k := .i64) h (of_decide_eq_true (by kernel_rfl)) (by kernel_rfl) rfl (by kernel_rfl) (by kernel_rfl) Tryd.underlying3
end Go.Proofs.YtmddnklafplikaaDoor
namespace Go.Proofs.YtmddnklafplikaaDoor
open Go.RowKit
set_option linter.unusedVariables false
set_option maxRecDepth 20000
theorem ownB_new (w : World) (cs : Array Value) (e : TypeId) (n : Nat) (hn : cs.size = n) (hm : n ≤ maxLen) : (w.alloc (.cells cs e)).ownsRow w.heap.size e 1 (.slice (some ⟨w.heap.size, 0, none⟩) n n) n cs.toList :=
  ⟨by simp [hn], Or.inr ⟨_, n, cs, rfl, Nat.le_refl _, heap_alloc_new w _, Nat.le_refl _, hm, by omega, by rw [List.take_of_length_le (by simp; omega)]⟩⟩
theorem str_own {w : World} {B : Nat} {a : Option Addr} {n c : Nat} {l : List UInt8} (h : w.ownsRow B 5 1 (.slice a n c) n (Lib.byteCells l)) : (convert 52 9 (.slice a n c)).run Tryd.prog w = .ok (.string ⟨l.toArray⟩) w := by
  have hl : l.length = n := by have := h.1; simp [Lib.byteCells] at this; exact this
  rcases h.2 with ⟨h0, h1⟩ | ⟨g, cap, cur, hv, _, hh, _, _, hs, hx⟩
  · injection h0 with h0 h2 h3
    subst h0; subst h1; subst h3
    have : l = [] := List.eq_nil_of_length_eq_zero hl
    subst this
    exact run_convert_bytes_nil w 52 5 Tryd.underlying52 Tryd.underlying5 0 0 9 Tryd.underlying9
  · injection hv with hv _ hv3
    subst hv; subst hv3
    rw [← hl] at hx ⊢
    refine run_convert_bytes_back w 52 9 5 ⟨g, 0, none⟩ c l Tryd.underlying52 Tryd.underlying5 Tryd.underlying9 fun j hj => ?_
    rw [Go.WideShapes.add_plain, Nat.zero_add, Lib.cell_of_heap hh, ← Array.getElem?_toList]
    have h3 : (cur.toList.take (l.length * 1))[j]? = (Lib.byteCells l)[j]? := by rw [hx]
    rw [List.getElem?_take_of_lt (by omega)] at h3
    rw [h3]
    simp [Lib.byteCells, hj]
theorem cells_app (l m : List UInt8) : Lib.byteCells (l ++ m) = Lib.byteCells l ++ Lib.byteCells m := by simp [Lib.byteCells]
set_option maxRecDepth 100000 in
set_option maxHeartbeats 1600000 in
theorem rquote_any (s : ByteArray) (w : World) (hs : s.size ≤ 1048576) : Calls Tryd.prog 12 #[.string s] w fun e w' => e = .returned (.string (quoS s)) ∧ Below w.heap.size w w' := by
  obtain ⟨i0, hii, hz0, hz1, hz2⟩ := info_parts byte_info
  obtain ⟨n, hn⟩ : ∃ n, s.size = n := ⟨_, rfl⟩
  obtain ⟨l, hl⟩ : ∃ l, s.data.toList = l := ⟨_, rfl⟩
  have hln : l.length = n := by rw [← hl, ← hn]; exact Array.length_toList
  have HAT := Lib.hid (show ∀ i c, l[i]? = some c → ∃ h' : i < s.size, (s[i]'h').toNat = c.toNat from fun i c h => byte_cons (by rw [hl]; exact h))
  have HLN := Lib.hid hln; have HL := Lib.hid hl
  have O0 := Lib.hid (show (w.alloc (.cells #[.int .u8 34] 5)).ownsRow w.heap.size 5 1 (.slice (some ⟨w.heap.size, 0, none⟩) 1 1) 1 (Lib.byteCells (34 :: quoB (l.take 0))) from ownB_new w #[.int .u8 34] 5 1 rfl (by unfold maxLen; omega))
  have B0 := Lib.hid (below_one w (.cells #[.int .u8 34] 5))
  rw [hn] at hs
  clear hl hln
  go_enter Tryd.func12, Tryd.ntmps12
  go_wp2_with fail
  go_loopw [3, 4] (fun ov iv wr => ∃ (i m : Nat) (av : Option Addr) (cv : Nat), i ≤ n ∧ iv = .int .i64 i ∧ ov = .slice av m cv ∧ Hid (m = (quoB (l.take i)).length + 1) ∧ Hid (wr.ownsRow w.heap.size 5 1 (.slice av m cv) m (Lib.byteCells (34 :: quoB (l.take i)))) ∧ Hid (Below w.heap.size w wr)) (fun _ iv _ => n - (intOf iv).toNat)
  case atStart => exact ⟨0, 1, _, 1, by omega, rfl, rfl, Lib.hid rfl, O0, B0⟩
  case round =>
    clear O0 B0
    obtain ⟨i, m, av, cv, hi, rfl, rfl, hM, hO, hB⟩ := hrel
    have hm9 : m ≤ 3145729 := by
      have h1 := quoB_len (l.take i)
      rw [List.length_take] at h1
      have := hM.out; have := HLN.out; omega
    by_cases hlt : i < n
    · have hll : i < l.length := by rw [HLN.out]; exact hlt
      obtain ⟨c, hc⟩ : ∃ c, l[i] = c := ⟨_, rfl⟩
      obtain ⟨_, hby⟩ := HAT.out i _ (List.getElem?_eq_getElem hll)
      have htk : l.take (i + 1) = l.take i ++ [c] := by
        rw [List.take_add_one, List.getElem?_eq_getElem hll, hc]; rfl
      rw [hc] at hby
      have hqs : quoB (l.take (i + 1)) = quoB (l.take i) ++ quoU c := by rw [htk, quoB_snoc]
      have hcl : c.toNat < 256 := c.toNat_lt
      obtain ⟨p, hp⟩ : ∃ p, decide (plainP c) = p := ⟨_, rfl⟩
      have hiff : plainP c ↔ (32 < c.toNat ∧ c.toNat ≤ 126 ∧ c.toNat ≠ 34 ∧ c.toNat ≠ 92) := Iff.rfl
      have HQS := Lib.hid hqs
      have HP := Lib.hid hp
      obtain ⟨x, hx⟩ : ∃ x, c.toNat = x := ⟨_, rfl⟩
      rw [hx] at hby hiff hcl
      have HX := Lib.hid hx
      have HXP := Lib.hid (show decide (32 < x ∧ x ≤ 126 ∧ x ≠ 34 ∧ x ≠ 92) = p from by rw [← hp]; exact decide_eq_decide.2 hiff.symm)
      have n1 : (0 : Int) ≤ (i : Int) := by omega
      have n2 : (i : Int) < (n : Int) := by omega
      clear hc htk hqs hp hiff hx
      go_upto_region 6 with fail
      go_cut [29] from 16 to 29 (fun v wc => v = .bool p ∧ wc = wr)
      case first =>
        have hcase : x < 33 ∨ (33 ≤ x ∧ 126 < x) ∨ x = 34 ∨ x = 92 ∨ (33 ≤ x ∧ x ≤ 126 ∧ x ≠ 34 ∧ x ≠ 92) := by omega
        rcases hcase with h | ⟨h, h2⟩ | rfl | rfl | ⟨h, h2, h3, h4⟩
        · have hpp := HXP.out
          rw [decide_eq_false (by omega)] at hpp
          subst hpp
          have g1 : decide ((x : Int) ≥ 33) = false := decide_eq_false (by omega)
          have g2 : decide (33 ≤ x) = false := decide_eq_false (by omega)
          have g3 : decide ((33 : Int) ≤ (x : Int)) = false := decide_eq_false (by omega)
          clear h
          go_wp2_with fail
          go_meet
          exact ⟨rfl, rfl⟩
        · have hpp := HXP.out
          rw [decide_eq_false (by omega)] at hpp
          subst hpp
          have g1 : decide ((x : Int) ≥ 33) = true := decide_eq_true (by omega)
          have g2 : decide (33 ≤ x) = true := decide_eq_true (by omega)
          have g3 : decide ((33 : Int) ≤ (x : Int)) = true := decide_eq_true (by omega)
          have g4 : decide ((x : Int) ≤ 126) = false := decide_eq_false (by omega)
          have g5 : decide (x ≤ 126) = false := decide_eq_false (by omega)
          clear h h2
          go_wp2_with fail
          go_meet
          exact ⟨rfl, rfl⟩
        · have hpp := HXP.out
          rw [decide_eq_false (by omega)] at hpp
          subst hpp
          go_wp2_with fail
          go_meet
          exact ⟨rfl, rfl⟩
        · have hpp := HXP.out
          rw [decide_eq_false (by omega)] at hpp
          subst hpp
          go_wp2_with fail
          go_meet
          exact ⟨rfl, rfl⟩
        · have hpp := HXP.out
          rw [decide_eq_true (by omega)] at hpp
          subst hpp
          have g1 : decide ((x : Int) ≥ 33) = true := decide_eq_true (by omega)
          have g2 : decide (33 ≤ x) = true := decide_eq_true (by omega)
          have g3 : decide ((33 : Int) ≤ (x : Int)) = true := decide_eq_true (by omega)
          have g4 : decide ((x : Int) ≤ 126) = true := decide_eq_true (by omega)
          have g5 : decide (x ≤ 126) = true := decide_eq_true (by omega)
          have g6 : ((x : Int) != 34) = true := by simp; omega
          have g7 : ((x : Int) != 92) = true := by simp; omega
          clear h h2 h3 h4
          go_wp2_with fail
          go_meet
          exact ⟨rfl, rfl⟩
      case rest =>
        rename World => wq
        obtain ⟨rfl, hqr⟩ := hcut
        subst hqr
        cases p with
        | true =>
          have hq : quoU c = [c] := by unfold quoU; rw [if_pos (of_decide_eq_true HP.out)]
          have HN := Lib.hid (show Lib.byteCells (34 :: quoB (l.take (i + 1))) = Lib.byteCells (34 :: quoB (l.take i)) ++ [.int .u8 (x : Int)] from by rw [HQS.out, hq, ← List.cons_append, cells_app, ← HX.out]; rfl)
          have HM2 := Lib.hid (show m + 1 = (quoB (l.take (i + 1))).length + 1 from by rw [HQS.out, hq, List.length_append]; have := hM.out; simp; omega)
          clear hq
          go_wp2_with (at_builtin; refine wpList_append_any rfl (.tmp 30) (.tmp 32) 52 rfl w.heap.size 5 i0 (.int .u8 0) 1 1 Tryd.underlying52 hii hz0 hz1 hz2 rfl (by decide) _ m _ rfl (hO.out.alloc _) _ 1 1 [.int .u8 (x : Int)] rfl (some_none _) rfl (one_new _ _ _ _) (one_int _ _) (by unfold maxLen; omega) (by omega) (by have := hB.out.size; simp; omega) ?_; intro a3 c3 w3 hown3 hb3 hnil3)
          have O3 := Lib.hid (show w3.ownsRow w.heap.size 5 1 (.slice a3 (m + 1) c3) (m + 1) (Lib.byteCells (34 :: quoB (l.take (i + 1)))) from by rw [HN.out]; exact hown3)
          have B3 := Lib.hid ((hB.out.alloc hB.out.size _).trans hb3)
          clear hown3 hb3 hnil3 hO hB
          go_wp2_with fail
          go_roundw
          case rel => exact ⟨i + 1, m + 1, a3, c3, by omega, by go_num, rfl, HM2, O3, B3⟩
          case measure => simp [intOf] <;> omega
        | false =>
          obtain ⟨a, ha⟩ : ∃ a, x / 16 = a := ⟨_, rfl⟩
          obtain ⟨d, hd⟩ : ∃ d, x % 16 = d := ⟨_, rfl⟩
          have hq : quoU c = [92, hexU a, hexU d] := by unfold quoU; rw [if_neg (of_decide_eq_false HP.out), HX.out, ha, hd]
          have ha16 : a < hexT.size := by rw [hexT_size]; omega
          have hd16 : d < hexT.size := by rw [hexT_size]; omega
          have e1 := hexU_at a ha16
          have e2 := hexU_at d hd16
          unfold hexT at e1 e2
          obtain ⟨xa, hxa⟩ : ∃ xa, (hexU a).toNat = xa := ⟨_, rfl⟩
          obtain ⟨xd, hxd⟩ : ∃ xa, (hexU d).toNat = xa := ⟨_, rfl⟩
          have e3 := congrArg UInt8.toNat e1
          have e4 := congrArg UInt8.toNat e2
          rw [hxa] at e3
          rw [hxd] at e4
          have q1 : (x : Int) / 16 = (a : Int) := by omega
          have q2 : (x : Int) % 16 = (d : Int) := by omega
          have q3 : (x : Int).tdiv 16 = (a : Int) := by rw [Int.tdiv_eq_ediv_of_nonneg (by omega)]; exact q1
          have q4 : (x : Int).tmod 16 = (d : Int) := by rw [Int.tmod_eq_emod_of_nonneg (by omega)]; exact q2
          have q5 : IntKind.u8.wrap (a : Int) = (a : Int) := by simp only [IntKind.wrap, IntKind.signed, IntKind.bits]; simp; omega
          have h1 : (0 : Int) ≤ (a : Int) := by omega
          have h2 : (a : Int) < 16 := by rw [hexT_size] at ha16; omega
          have h3 : (0 : Int) ≤ (d : Int) := by omega
          have h4 : (d : Int) < 16 := by rw [hexT_size] at hd16; omega
          have HN := Lib.hid (show Lib.byteCells (34 :: quoB (l.take (i + 1))) = Lib.byteCells (34 :: quoB (l.take i)) ++ [.int .u8 92, .int .u8 (xa : Int), .int .u8 (xd : Int)] from by rw [HQS.out, hq, ← List.cons_append, cells_app, ← hxa, ← hxd]; rfl)
          have HM2 := Lib.hid (show m + 3 = (quoB (l.take (i + 1))).length + 1 from by rw [HQS.out, hq, List.length_append]; have := hM.out; simp; omega)
          have OW := Lib.hid (show wq.drew.ownsRow w.heap.size 5 1 (.slice av m cv) m (Lib.byteCells (34 :: quoB (l.take i))) from owns_below hO.out (Below.refl _ _).drew)
          have BD := Lib.hid (show Below w.heap.size w wq.drew from hB.out.drew)
          have hwr : w.heap.size ≤ wq.heap.size := hB.out.size
          have NW := Lib.hid (show ∀ va vd : Nat, va = xa → vd = xd → ∀ (j : Nat) (u : Value), [Value.int .u8 92, .int .u8 (xa : Int), .int .u8 (xd : Int)][j]? = some u → (wq.alloc (.cells #[.int .u8 92, .int .u8 (va : Int), .int .u8 (vd : Int)] 5)).drew.cell? ((⟨wq.drew.heap.size, 0, none⟩ : Addr).add j) = some u from by
            rintro va vd rfl rfl
            exact World.news_of_block (cs := #[.int .u8 92, .int .u8 (va : Int), .int .u8 (vd : Int)]) (t := 5) (fr := (0, 0)) (heap_alloc_new wq _))
          clear hq ha hd e1 e2 hxa hxd hO hB
          go_upto_region 8 with fail
          go_region_law
            (refine step_append_lies _ (by rfl) _ _ _ (by rfl) w.heap.size 5 i0 _ 1 1 Tryd.underlying52 hii hz0 hz1 hz2 rfl (by omega) (.slice av m cv) m (Lib.byteCells (34 :: quoB (l.take i))) (by rfl) (OW.out.alloc _) ⟨wq.drew.heap.size, 0, none⟩ 3 3 [.int .u8 92, .int .u8 (xa : Int), .int .u8 (xd : Int)] (by rfl) (by rfl) (NW.out _ _ e3 e4) (by simp [Value.oneCell']) (by omega) (by unfold maxLen; omega) (by omega) (by simp; omega) (wq.drew.heap.size + 1) (by simp) ?_; intro g3 c3 w3 hown3 hgrow3 hat3 hlt3)
          all_goals
            have O3 := Lib.hid (show w3.ownsRow w.heap.size 5 1 (.slice (some ⟨g3, 0, none⟩) (m + 3) c3) (m + 3) (Lib.byteCells (34 :: quoB (l.take (i + 1)))) from by rw [HN.out]; exact hown3)
            have B3 := Lib.hid ((BD.out.alloc (by simp; omega) _).grown hgrow3 (by simp; omega) (fun k hk => (OW.out.lt k hk).1))
            clear hown3 hgrow3 hat3 hlt3
            go_wp2_with fail
            go_roundw
            case rel => exact ⟨i + 1, m + 3, some ⟨g3, 0, none⟩, c3, by omega, by go_num, rfl, HM2, O3, B3⟩
            case measure => simp [intOf] <;> omega
    · obtain rfl : i = n := by omega
      have HF := Lib.hid (show quoB (l.take i) = quoB l from by rw [List.take_of_length_le (by have := HLN.out; omega)])
      have HS := Lib.hid (show (⟨(34 :: (quoB l ++ [34])).toArray⟩ : ByteArray) = quoS s from by unfold quoS; rw [HL.out])
      have HN := Lib.hid (show Lib.byteCells (34 :: (quoB l ++ [34])) = Lib.byteCells (34 :: quoB (l.take i)) ++ [.int .u8 34] from by rw [HF.out, ← List.cons_append, cells_app]; rfl)
      go_wp2_with (at_builtin; refine wpList_append_any rfl (.tmp 43) (.tmp 44) 52 rfl w.heap.size 5 i0 (.int .u8 0) 1 1 Tryd.underlying52 hii hz0 hz1 hz2 rfl (by decide) _ m _ rfl (hO.out.alloc _) _ 1 1 [.int .u8 34] rfl (some_none _) rfl (one_new _ _ _ _) (one_int _ _) (by unfold maxLen; omega) (by omega) (by have := hB.out.size; simp; omega) ?_; intro a3 c3 w3 hown3 hb3 hnil3; have hcv := str_own (l := 34 :: (quoB l ++ [34])) (by rw [HN.out]; exact hown3); rw [HS.out] at hcv)
      go_ret
      exact ⟨rfl, (hB.out.alloc hB.out.size _).trans hb3⟩
end Go.Proofs.YtmddnklafplikaaDoor
namespace Go.Proofs.YtmddnklafplikaaDoor
open Go.RowKit
set_option linter.unusedVariables false
set_option maxRecDepth 20000
theorem dig_cut (n : Nat) (h : n < 10) : (({ data := #[48, 49, 50, 51, 52, 53, 54, 55, 56, 57] } : ByteArray).extract n (n + 1)) = ⟨(Lib.decDigits n).toArray⟩ := by
  rw [Lib.decDigits_one h]
  have : n = 0 ∨ n = 1 ∨ n = 2 ∨ n = 3 ∨ n = 4 ∨ n = 5 ∨ n = 6 ∨ n = 7 ∨ n = 8 ∨ n = 9 := by omega
  apply ByteArray.ext
  apply Array.toList_inj.1
  rw [Lib.extract_data]
  rcases this with rfl | rfl | rfl | rfl | rfl | rfl | rfl | rfl | rfl | rfl <;> rfl
theorem arr_app (l m : List UInt8) : (⟨l.toArray⟩ : ByteArray) ++ ⟨m.toArray⟩ = ⟨(l ++ m).toArray⟩ := by
  apply ByteArray.ext
  apply Array.toList_inj.1
  simp
theorem dec_join (n : Nat) (h : ¬ n < 10) : (⟨(Lib.decDigits (n / 10)).toArray⟩ : ByteArray) ++ ⟨(Lib.decDigits (n % 10)).toArray⟩ = ⟨(Lib.decDigits n).toArray⟩ := by
  rw [arr_app, Lib.decDigits_one (show n % 10 < 10 by omega)]
  conv => rhs; rw [Lib.decDigits, dif_neg h]
set_option maxRecDepth 100000 in
set_option maxHeartbeats 1600000 in
theorem rdec_any (n : Nat) : n ≤ 999999 → ∀ w : World, Calls Tryd.prog 50 #[.int .i64 (n : Int)] w fun e w' => e = .returned (.string ⟨(Lib.decDigits n).toArray⟩) ∧ Below w.heap.size w w' := by
  induction n using Nat.strongRecOn with
  | ind n ih =>
    intro hn w
    by_cases h : n < 10
    · have E := Lib.hid (dig_cut n h)
      have i1 : (n : Int) < 10 := by omega
      have j1 : IntKind.i64.wrap ((n : Int) + 1) = ((n + 1 : Nat) : Int) := by rw [IntWalk.i64_in _ (by omega)]; omega
      go_enter Tryd.func50, Tryd.ntmps50
      go_wp2_with fail
      go_ret
      exact ⟨by rw [← E.out]; rfl, Below.refl _ _⟩
    · have D1 := Lib.hid (ih (n / 10) (by omega) (by omega))
      have D2 := Lib.hid (ih (n % 10) (by omega) (by omega))
      have E := Lib.hid (dec_join n h)
      obtain ⟨s1, hs1⟩ : ∃ s, (⟨(Lib.decDigits (n / 10)).toArray⟩ : ByteArray) = s := ⟨_, rfl⟩
      obtain ⟨s2, hs2⟩ : ∃ s, (⟨(Lib.decDigits (n % 10)).toArray⟩ : ByteArray) = s := ⟨_, rfl⟩
      have z1 : s1.size ≤ 6 := by
        have h3 := (dec_len (n / 10) (by omega)).2
        rw [← hs1]; show (Lib.decDigits (n / 10)).toArray.size ≤ 6
        rw [List.size_toArray]; exact h3
      have z2 : s2.size ≤ 6 := by
        have h3 := (dec_len (n % 10) (by omega)).2
        rw [← hs2]; show (Lib.decDigits (n % 10)).toArray.size ≤ 6
        rw [List.size_toArray]; exact h3
      rw [hs1] at D1 E
      rw [hs2] at D2 E
      obtain ⟨x, hx⟩ : ∃ x, n / 10 = x := ⟨_, rfl⟩
      obtain ⟨y, hy⟩ : ∃ x, n % 10 = x := ⟨_, rfl⟩
      rw [hx] at D1; rw [hy] at D2
      have i1 : ¬ (n : Int) < 10 := by omega
      have j1 : (n : Int).tdiv 10 = (x : Int) := by rw [← hx]; exact Int.ofNat_tdiv n 10
      have j2 : (n : Int).tmod 10 = (y : Int) := by rw [← hy]; exact Int.ofNat_tmod n 10
      have j3 : wrap64 (x : Int) = (x : Int) := IntWalk.wrap64_in _ ⟨by omega, by omega⟩
      have j4 : wrap64 (y : Int) = (y : Int) := IntWalk.wrap64_in _ ⟨by omega, by omega⟩
      clear ih hs1 hs2 hx hy
      go_enter Tryd.func50, Tryd.ntmps50
      go_wp2_with fail
      refine (D1.out _).mono ?_
      rintro e w2 ⟨rfl, hb2⟩
      go_wp2_with fail
      refine (D2.out _).mono ?_
      rintro e w3 ⟨rfl, hb3⟩
      go_wp2_with fail
      go_ret
      exact ⟨by rw [← E.out]; rfl, hb2.trans (hb3.mono hb2.size)⟩
/-- parts with a blank ahead of each -/
def tailB (ps : List (List UInt8)) : List UInt8 := ps.flatMap (fun p => 32 :: p)
theorem tailB_snoc (ps : List (List UInt8)) (p : List UInt8) : tailB (ps ++ [p]) = tailB ps ++ 32 :: p := by simp [tailB]
theorem lineB_tail (p : List UInt8) : ∀ ps, lineB (p :: ps) = p ++ tailB ps
  | [] => by simp [lineB, Lib.join, tailB]
  | q :: ps => by
    have ih := lineB_tail q ps
    have e : lineB (p :: q :: ps) = p ++ [32] ++ lineB (q :: ps) := by simp [lineB, Lib.join]
    rw [e, ih]
    simp [tailB]
def numsB (zs : List Int) : List UInt8 := tailB (zs.map decI)
theorem numsB_snoc (zs : List Int) (z : Int) : numsB (zs ++ [z]) = numsB zs ++ 32 :: decI z := by
  unfold numsB; rw [List.map_append, List.map_cons, List.map_nil, tailB_snoc]
theorem numsB_len : ∀ zs : List Int, numsQ zs = true → (numsB zs).length ≤ zs.length * 7
  | [], _ => by simp [numsB, tailB]
  | z :: zs, h => by
    unfold numsQ at h
    rw [List.all_cons, Bool.and_eq_true] at h
    have ih := numsB_len zs h.2
    have h2 : 0 ≤ z ∧ z ≤ 999999 := of_decide_eq_true h.1
    have h1 : (decI z).length ≤ 6 := (dec_len z.toNat (by omega)).2
    have e : numsB (z :: zs) = 32 :: decI z ++ numsB zs := by simp [numsB, tailB]
    rw [e, List.length_append, List.length_cons, List.length_cons]
    omega
theorem one_more (S d : ByteArray) (zs : List Int) (z : Int) (hS : S.data.toList = numsB zs) (hd : d.data.toList = decI z) : (S ++ ({ data := #[32] } : ByteArray) ++ d).data.toList = numsB (zs ++ [z]) := by
  rw [numsB_snoc]; simp [hS, hd]
def RNumsP (w : World) (zs : List Int) (e : Ending) (w' : World) : Prop := ∃ s : ByteArray, e = .returned (.tuple #[.string s, .bool (numsQ zs)]) ∧ (numsQ zs = true → s.data.toList = numsB zs) ∧ s.size ≤ 70000 ∧ Below w.heap.size w w'
set_option maxRecDepth 100000 in
set_option maxHeartbeats 1600000 in
theorem rnums_any (a : Option Addr) (n c : Nat) (zs : List Int) (w : World) (h : HoldsI .i64 w a n zs) (hn : n ≤ 1000) : Calls Tryd.prog 32 #[.slice a n c] w (RNumsP w zs) := by
  have hzl := h.len
  have HH := Lib.hid (fun (w' : World) (hb : Below w.heap.size w w') => h.below hb)
  clear h
  have S0 := Lib.hid (show (({ data := #[] } : ByteArray)).data.toList = numsB (zs.take 0) from rfl)
  go_enter Tryd.func32, Tryd.ntmps32
  go_wp2_with fail
  go_loopw [4, 5] (fun sv iv wr => ∃ (i : Nat) (S : ByteArray), i ≤ n ∧ iv = .int .i64 i ∧ sv = .string S ∧ Hid (S.data.toList = numsB (zs.take i)) ∧ Hid (numsQ (zs.take i) = true) ∧ Hid (Below w.heap.size w wr)) (fun _ iv _ => n - (intOf iv).toNat)
  case atStart => exact ⟨0, _, by omega, rfl, rfl, S0, Lib.hid rfl, Lib.hid (Below.refl _ _)⟩
  case round =>
    clear S0
    obtain ⟨i, S, hi, rfl, rfl, hS, hQ, hB⟩ := hrel
    have hsz : S.size ≤ 7000 := by
      have h1 := numsB_len _ hQ.out
      have h2 : S.data.toList.length = S.size := Array.length_toList
      rw [hS.out] at h2
      rw [List.length_take] at h1
      omega
    by_cases hlt : i < n
    · obtain ⟨b, o, rfl, hc⟩ := (HH.out wr hB.out).2 (by omega)
      have hx := hc i hlt
      have TK := Lib.hid (take_getD29 zs 0 i (by omega))
      have MX : zs.getD i 0 ∈ zs := by rw [List.getD_eq_getElem?_getD, List.getElem?_eq_getElem (by omega)]; exact List.getElem_mem _
      obtain ⟨x, hx2⟩ : ∃ x, zs.getD i 0 = x := ⟨_, rfl⟩
      rw [hx2] at hx TK MX
      have i1 : (0 : Int) ≤ (i : Int) := by omega
      have i2 : (i : Int) < (n : Int) := by omega
      clear hc hx2
      by_cases h1 : x < 0
      · have Q2 := Lib.hid (show numsQ zs = false from by
          unfold numsQ; rw [List.all_eq_false]; exact ⟨x, MX, by unfold numQ; simp; omega⟩)
        clear MX
        go_wp2_with fail
        go_ret2
        exact ⟨{ data := #[] }, by rw [Q2.out]; rfl, (by intro h; rw [Q2.out] at h; cases h), by show 0 ≤ 70000; omega, hB.out⟩
      by_cases h2 : 999999 < x
      · have Q2 := Lib.hid (show numsQ zs = false from by
          unfold numsQ; rw [List.all_eq_false]; exact ⟨x, MX, by unfold numQ; simp; omega⟩)
        have e1 : decide (x < 0) = false := decide_eq_false h1
        have e2 : decide (x > 999999) = true := decide_eq_true h2
        have e3 : decide (999999 < x) = true := decide_eq_true h2
        clear MX h1 h2
        go_wp2_with fail
        go_ret2
        exact ⟨{ data := #[] }, by rw [Q2.out]; rfl, (by intro h; rw [Q2.out] at h; cases h), by show 0 ≤ 70000; omega, hB.out⟩
      have e1 : decide (x < 0) = false := decide_eq_false h1
      have e2 : decide (x > 999999) = false := decide_eq_false h2
      have e3 : decide (999999 < x) = false := decide_eq_false h2
      have hq : numQ x = true := decide_eq_true ⟨by omega, by omega⟩
      obtain ⟨k, rfl⟩ : ∃ k : Nat, x = (k : Int) := ⟨x.toNat, by omega⟩
      have CD := Lib.hid (fun w => rdec_any k (by omega) w)
      obtain ⟨d, hd⟩ : ∃ s, (⟨(Lib.decDigits k).toArray⟩ : ByteArray) = s := ⟨_, rfl⟩
      rw [hd] at CD
      have hdd : d.data.toList = decI (k : Int) := by rw [← hd]; rfl
      have hds : d.size ≤ 6 := by
        have h3 : (decI (k : Int)).length ≤ 6 := (dec_len _ (by omega)).2
        have h4 : d.data.toList.length = d.size := Array.length_toList
        rw [hdd] at h4; omega
      have S2 := Lib.hid (show (S ++ ({ data := #[32] } : ByteArray) ++ d).data.toList = numsB (zs.take (i + 1)) from by rw [TK.out]; exact one_more _ _ _ _ hS.out hdd)
      have Q2 := Lib.hid (show numsQ (zs.take (i + 1)) = true from by
        rw [TK.out]; unfold numsQ; rw [List.all_append, Bool.and_eq_true]; exact ⟨hQ.out, by simp [hq]⟩)
      clear MX h1 h2 hd hdd hq
      go_wp2_with fail
      refine (CD.out _).mono ?_
      rintro e w2 ⟨rfl, hb2⟩
      have B2 := Lib.hid (hB.out.trans (hb2.mono hB.out.size))
      clear hb2
      go_wp2_with fail
      go_roundw
      case rel => exact ⟨i + 1, _, by omega, by go_num, rfl, S2, Q2, B2⟩
      case measure => simp [intOf]; omega
    · obtain rfl : n = i := by omega
      have hS2 := hS.out; have hQ2 := hQ.out
      rw [List.take_of_length_le (by omega)] at hS2 hQ2
      have S2 := Lib.hid hS2; have Q2 := Lib.hid hQ2
      clear hS2 hQ2
      go_wp2_with fail
      go_ret2
      exact ⟨S, by rw [Q2.out]; rfl, fun _ => S2.out, by omega, hB.out⟩
end Go.Proofs.YtmddnklafplikaaDoor
namespace Go.Proofs.YtmddnklafplikaaDoor
open Go.RowKit
set_option linter.unusedVariables false
set_option maxRecDepth 20000
set_option maxHeartbeats 1600000 in
theorem rset_any (wa ka : Option Addr) (nw nk wc kc : Nat) (a0 a1 a2 a3 a4 a5 a6 a7 a8 a9 : Int) (w : World) :
    Calls Tryd.prog 33 #[.agg #[.slice wa nw wc, .slice ka nk kc, .int .i64 a0, .int .i64 a1, .int .i64 a2, .int .i64 a3, .int .i64 a4, .int .i64 a5, .int .i64 a6, .int .i64 a7, .int .i64 a8, .int .i64 a9]] w (NewInts w 10 [a0, a1, a2, a3, a4, a5, a6, a7, a8, a9]) := by
  have hs1 : (w.alloc (.cells #[.slice wa nw wc, .slice ka nk kc, .int .i64 a0, .int .i64 a1, .int .i64 a2, .int .i64 a3, .int .i64 a4, .int .i64 a5, .int .i64 a6, .int .i64 a7, .int .i64 a8, .int .i64 a9] 30)).heap.size = w.heap.size + 1 := by simp
  have HH := holdsI_lit29 (w.alloc (.cells #[.slice wa nw wc, .slice ka nk kc, .int .i64 a0, .int .i64 a1, .int .i64 a2, .int .i64 a3, .int .i64 a4, .int .i64 a5, .int .i64 a6, .int .i64 a7, .int .i64 a8, .int .i64 a9] 30)) [a0, a1, a2, a3, a4, a5, a6, a7, a8, a9] 3 (0, 0)
  rw [hs1] at HH
  have HD := Lib.hid HH
  clear HH hs1
  go_enter Tryd.func33, Tryd.ntmps33
  go_wp2_with fail
  go_ret
  exact ⟨w.heap.size + 1, rfl, HD.out, (below_one w _).trans ((below_one _ _).mono (by simp))⟩
theorem evs_carry {w3 a b : World} {q : Nat} {nd pl ex : Int} {t : ByteArray} (h : Below w3.heap.size w3 a ∧ a.cell? ⟨q, 1, none⟩ = some (.int .i64 nd) ∧ a.cell? ⟨q, 2, none⟩ = some (.int .i64 pl) ∧ a.cell? ⟨q, 3, none⟩ = some (.int .i64 ex) ∧ a.cell? ⟨q, 4, none⟩ = some (.string t)) (hb : Below a.heap.size a b) : Below w3.heap.size w3 b ∧ b.cell? ⟨q, 1, none⟩ = some (.int .i64 nd) ∧ b.cell? ⟨q, 2, none⟩ = some (.int .i64 pl) ∧ b.cell? ⟨q, 3, none⟩ = some (.int .i64 ex) ∧ b.cell? ⟨q, 4, none⟩ = some (.string t) :=
  have l := lt_of_cell h.2.1
  ⟨h.1.trans (hb.mono h.1.size), (hb.cell (p := ⟨q, 1, none⟩) l).trans h.2.1, (hb.cell (p := ⟨q, 2, none⟩) l).trans h.2.2.1, (hb.cell (p := ⟨q, 3, none⟩) l).trans h.2.2.2.1, (hb.cell (p := ⟨q, 4, none⟩) l).trans h.2.2.2.2⟩
theorem ask_line (t s : ByteArray) (k n : Int) (h : s.data.toList = numsB [k, n]) : (({ data := #[97, 115, 107, 32] } : ByteArray) ++ quoS t ++ s).data.toList = lineB [askB, quoL t.data.toList, decI k, decI n] := by
  rw [lineB_tail]
  simp only [ByteArray.data_append, Array.toList_append, quoS_data, h]
  simp [askB, tailB, numsB]
theorem ev_line (s : ByteArray) (zs : List Int) (h : s.data.toList = numsB zs) : (({ data := #[101, 118] } : ByteArray) ++ s).data.toList = lineB (evB :: zs.map decI) := by
  rw [lineB_tail]
  simp only [ByteArray.data_append, Array.toList_append, h]
  rfl
def EvLP (w : World) (z : Bool) (l : List UInt8) (e : Ending) (w' : World) : Prop := ∃ s : ByteArray, e = .returned (.tuple #[.string s, .bool z]) ∧ (z = true → s.data.toList = l) ∧ Below w.heap.size w w'
set_option maxRecDepth 100000 in
set_option maxHeartbeats 3200000 in
theorem revent_ask (x : EvP) (w : World) (hk : x.kd = 1) (hx : x.text.size ≤ 1048576) : Calls Tryd.prog 34 #[.agg #[.int .i64 x.kd, .int .i64 x.nd, .int .i64 x.pl, .int .i64 x.x, .string x.text, .int .i64 x.k, .int .i64 x.n]] w (EvLP w (mayEv x) (lineB (evQ x))) := by
  have hev : evQ x = [askB, quoL x.text.data.toList, decI x.k, decI x.n] := by unfold evQ; rw [if_pos hk]
  have hmay : mayEv x = (decide (x.nd = 0 ∧ x.pl = 0 ∧ x.x = 0) && numsQ [x.k, x.n]) := by unfold mayEv numsQ; rw [if_pos hk]; simp
  rw [hev, hmay]
  obtain ⟨kd, nd, pl, ex, t, k, n⟩ := x
  have hk : kd = 1 := hk
  subst hk
  have hx : t.size ≤ 1048576 := hx
  show Calls Tryd.prog 34 #[.agg #[.int .i64 1, .int .i64 nd, .int .i64 pl, .int .i64 ex, .string t, .int .i64 k, .int .i64 n]] w (EvLP w (decide (nd = 0 ∧ pl = 0 ∧ ex = 0) && numsQ [k, n]) (lineB [askB, quoL t.data.toList, decI k, decI n]))
  clear hev hmay
  obtain ⟨W, hW⟩ : ∃ W, w.alloc (.cells #[.int .i64 1, .int .i64 nd, .int .i64 pl, .int .i64 ex, .string t, .int .i64 k, .int .i64 n] 50) = W := ⟨_, rfl⟩
  have hWs : W.heap.size = w.heap.size + 1 := by rw [← hW]; simp
  have HH := holdsI_lit29 W [k, n] 3 (0, 0)
  have CN := Lib.hid (rnums_any (some ⟨W.heap.size, 0, none⟩) 2 2 [k, n] _ HH (by omega))
  have B1 := Lib.hid (show Below w.heap.size w W from by rw [← hW]; exact below_one w _)
  have B2 := Lib.hid (B1.out.trans ((below_one W (.cells ([k, n].map (Value.int .i64)).toArray 3)).mono B1.out.size))
  have K2 := Lib.hid (show (W.alloc (.cells ([k, n].map (Value.int .i64)).toArray 3)).heap[w.heap.size]? = some (.cells #[.int .i64 1, .int .i64 nd, .int .i64 pl, .int .i64 ex, .string t, .int .i64 k, .int .i64 n] 50 (0, 0)) from by
    rw [(below_one W (.cells ([k, n].map (Value.int .i64)).toArray 3)).block w.heap.size (by omega), ← hW]; exact heap_alloc_new w _)
  have CQ := Lib.hid (fun w => rquote_any t w hx)
  obtain ⟨Q, hQ⟩ : ∃ Q, quoS t = Q := ⟨_, rfl⟩
  have hQz : Q.size ≤ 4000000 := by
    have h1 := quoB_len t.data.toList
    have h2 : t.data.toList.length = t.size := Array.length_toList
    have h3 : Q.size = (quoL t.data.toList).length := by rw [← hQ, ← quoS_data]; exact Array.length_toList.symm
    rw [h3]; simp only [quoL, List.length_cons, List.length_append, List.length_nil]; omega
  rw [hQ] at CQ
  have AL := Lib.hid (fun s h => ask_line t s k n h)
  rw [hQ] at AL
  obtain ⟨z, hz⟩ : ∃ z, numsQ [k, n] = z := ⟨_, rfl⟩
  unfold RNumsP at CN
  rw [hz] at CN
  have HW := Lib.hid hW
  rw [hz]
  obtain ⟨zz, hzz⟩ : ∃ y, (decide (nd = 0 ∧ pl = 0 ∧ ex = 0) && z) = y := ⟨_, rfl⟩
  rw [hzz]
  have F0 := Lib.hid (show z = false → zz = false from fun h => by rw [← hzz, h, Bool.and_false])
  have F1 := Lib.hid (show nd ≠ 0 → zz = false from fun h => by rw [← hzz, decide_eq_false (fun k => h k.1)]; rfl)
  have F2 := Lib.hid (show pl ≠ 0 → zz = false from fun h => by rw [← hzz, decide_eq_false (fun k => h k.2.1)]; rfl)
  have F3 := Lib.hid (show ex ≠ 0 → zz = false from fun h => by rw [← hzz, decide_eq_false (fun k => h k.2.2)]; rfl)
  have F4 := Lib.hid (show nd = 0 → pl = 0 → ex = 0 → z = true → zz = true from fun a b c d => by rw [← hzz, decide_eq_true ⟨a, b, c⟩, d]; rfl)
  obtain ⟨LL, hLL⟩ : ∃ L, lineB [askB, quoL t.data.toList, decI k, decI n] = L := ⟨_, rfl⟩
  rw [hLL] at AL ⊢
  clear HH hx hQ hz hW hzz hLL
  rw [hWs] at CN
  go_enter Tryd.func34, Tryd.ntmps34
  go_wp2_with fail
  rw [HW.out]
  refine CN.out.mono ?_
  rintro e w3 ⟨s, rfl, hs, hsz, hb3⟩
  have B3 := Lib.hid (B2.out.trans (hb3.mono B2.out.size))
  have K3 := Lib.hid (show w3.heap[w.heap.size]? = some (.cells #[.int .i64 1, .int .i64 nd, .int .i64 pl, .int .i64 ex, .string t, .int .i64 k, .int .i64 n] 50 (0, 0)) from (hb3.block _ (lt_of_heap29 K2.out)).trans K2.out)
  have S3 := Lib.hid (show Below w3.heap.size w3 w3 ∧ w3.cell? ⟨w.heap.size, 1, none⟩ = some (.int .i64 nd) ∧ w3.cell? ⟨w.heap.size, 2, none⟩ = some (.int .i64 pl) ∧ w3.cell? ⟨w.heap.size, 3, none⟩ = some (.int .i64 ex) ∧ w3.cell? ⟨w.heap.size, 4, none⟩ = some (.string t) from ⟨Below.refl _ _, by rw [Lib.cell_of_heap K3.out]; rfl, by rw [Lib.cell_of_heap K3.out]; rfl, by rw [Lib.cell_of_heap K3.out]; rfl, by rw [Lib.cell_of_heap K3.out]; rfl⟩)
  have HS := Lib.hid (show z = true → s.data.toList = numsB [k, n] from hs)
  have n1 : ¬ 9223372036854775807 < 4 + Q.size := by omega
  have n2 : ¬ 9223372036854775807 < 4 + Q.size + s.size := by omega
  clear hb3 hs K2 K3
  cases z with
  | false =>
    obtain rfl : zz = false := F0.out rfl
    clear F0 F1 F2 F3 F4
    go_upto_region 3 with fail
    refine wp_region_held_drew (S := (fun w' => Below w3.heap.size w3 w' ∧ w'.cell? ⟨w.heap.size, 1, none⟩ = some (.int .i64 nd) ∧ w'.cell? ⟨w.heap.size, 2, none⟩ = some (.int .i64 pl) ∧ w'.cell? ⟨w.heap.size, 3, none⟩ = some (.int .i64 ex) ∧ w'.cell? ⟨w.heap.size, 4, none⟩ = some (.string t))) (by kernel_rfl) (evs_carry S3.out (Below.refl _ _).drew) (fun hHeld0 => ?_)
    refine wpAnyH_take (i := 0) (oi := { dst := some 22, op := Op.fieldAddr 50 (Operand.tmp 1) 4, type := 0, pos := "ref.go:97", after := #[], guard := none }) (v := ?va0) rfl (by kernel_rfl) (by kernel_rfl) (by kernel_rfl) (fun _ _ _ h => h) (Or.inl ⟨by rfl, ?hya0⟩) (by assumption) ?resta0
    case hya0 => (intro w hSw; (try dsimp only at hSw); go_simp; (try with_reducible rfl))
    try simp only [Act.put, List.setIfInBounds_toArray, List.set_cons_zero, List.set_cons_succ]
    refine wpAnyH_take (i := 1) (oi := { dst := some 23, op := Op.fieldAddr 48 (Operand.tmp 22) 0, type := 0, pos := "ref.go:97", after := #[{ on := 0, ground := Ground.data }], guard := none }) (v := ?va1) rfl (by kernel_rfl) (by kernel_rfl) (by kernel_rfl) (fun _ _ _ h => h) (Or.inl ⟨by rfl, ?hya1⟩) (by assumption) ?resta1
    case hya1 => (intro w hSw; (try dsimp only at hSw); go_simp; (try with_reducible rfl))
    try simp only [Act.put, List.setIfInBounds_toArray, List.set_cons_zero, List.set_cons_succ]
    refine wpAnyH_take (i := 2) (oi := { dst := some 24, op := Op.load 9 (Operand.tmp 23), type := 9, pos := "ref.go:97", after := #[{ on := 1, ground := Ground.data }], guard := none }) (v := ?va2) rfl (by kernel_rfl) (by kernel_rfl) (by kernel_rfl) (fun _ _ _ h => h) (Or.inl ⟨by rfl, ?hya2⟩) (by assumption) ?resta2
    case hya2 => (intro w hSw; (try dsimp only at hSw); go_simp; (try with_reducible rfl))
    try simp only [Act.put, List.setIfInBounds_toArray, List.set_cons_zero, List.set_cons_succ]
    refine wpAnyH_take (i := 5) (oi := { dst := some 27, op := Op.move (Operand.tmp 4), type := 9, pos := "ref.go:97", after := #[], guard := none }) (v := ?va5) rfl (by kernel_rfl) (by kernel_rfl) (by kernel_rfl) (fun _ _ _ h => h) (Or.inl ⟨by rfl, ?hya5⟩) (by assumption) ?resta5
    case hya5 => (intro w hSw; (try dsimp only at hSw); go_simp; (try with_reducible rfl))
    try simp only [Act.put, List.setIfInBounds_toArray, List.set_cons_zero, List.set_cons_succ]
    refine wpAnyH_take (i := 7) (oi := { dst := some 29, op := Op.move (Operand.tmp 5), type := 4, pos := "ref.go:97", after := #[], guard := none }) (v := ?va7) rfl (by kernel_rfl) (by kernel_rfl) (by kernel_rfl) (fun _ _ _ h => h) (Or.inl ⟨by rfl, ?hya7⟩) (by assumption) ?resta7
    case hya7 => (intro w hSw; (try dsimp only at hSw); go_simp; (try with_reducible rfl))
    try simp only [Act.put, List.setIfInBounds_toArray, List.set_cons_zero, List.set_cons_succ]
    refine wpAnyH_ready (rs := [3]) (by kernel_rfl) (by simp) ?_
    refine AllReadyH.cons (o := { dst := some 25, op := Op.call { callee := Callee.value (Operand.func 12), args := #[Operand.tmp 24], argTypes := #[9] }, type := 9, pos := "ref.go:97", after := #[{ on := 2, ground := Ground.data }], guard := none }) rfl (fun K hK => ?_) AllReadyH.nil
    go_simp
    go_at_call 12
    refine (CQ.out _).mono ?_
    rintro e' w5 ⟨rfl, hb⟩
    go_wp2_with fail
    refine hK.out _ _ ?_ (fun hHeld1 => ?_)
    · exact evs_carry hHeld0 hb
    clear hK K hHeld0 hb
    try simp only [Act.put, List.setIfInBounds_toArray, List.set_cons_zero, List.set_cons_succ]
    refine wpAnyH_take (i := 4) (oi := { dst := some 26, op := Op.binOp BinOp.add 9 (Operand.const (Value.string { data := #[97, 115, 107, 32] })) (Operand.tmp 25) 9, type := 9, pos := "ref.go:97", after := #[{ on := 3, ground := Ground.data }], guard := none }) (v := ?va4) rfl (by kernel_rfl) (by kernel_rfl) (by kernel_rfl) (fun _ _ _ h => h) (Or.inl ⟨by rfl, ?hya4⟩) (by assumption) ?resta4
    case hya4 => (intro w hSw; (try dsimp only at hSw); go_simp; (try with_reducible rfl))
    try simp only [Act.put, List.setIfInBounds_toArray, List.set_cons_zero, List.set_cons_succ]
    refine wpAnyH_take (i := 6) (oi := { dst := some 28, op := Op.binOp BinOp.add 9 (Operand.tmp 26) (Operand.tmp 27) 9, type := 9, pos := "ref.go:97", after := #[{ on := 4, ground := Ground.data }, { on := 5, ground := Ground.data }], guard := none }) (v := ?va6) rfl (by kernel_rfl) (by kernel_rfl) (by kernel_rfl) (fun _ _ _ h => h) (Or.inl ⟨by rfl, ?hya6⟩) (by assumption) ?resta6
    case hya6 => (intro w hSw; (try dsimp only at hSw); go_simp; (try with_reducible rfl))
    try simp only [Act.put, List.setIfInBounds_toArray, List.set_cons_zero, List.set_cons_succ]
    refine wpAnyH_take (i := 8) (oi := { dst := some 30, op := Op.move (Operand.tmp 29), type := 4, pos := "ref.go:97", after := #[{ on := 7, ground := Ground.data }, { on := 3, ground := Ground.chain }], guard := none }) (v := ?va8) rfl (by kernel_rfl) (by kernel_rfl) (by kernel_rfl) (fun _ _ _ h => h) (Or.inl ⟨by rfl, ?hya8⟩) (by assumption) ?resta8
    case hya8 => (intro w hSw; (try dsimp only at hSw); go_simp; (try with_reducible rfl))
    try simp only [Act.put, List.setIfInBounds_toArray, List.set_cons_zero, List.set_cons_succ]
    refine wpAnyH_take (i := 9) (oi := { dst := some 31, op := Op.fieldAddr 50 (Operand.tmp 1) 1, type := 0, pos := "ref.go:97", after := #[{ on := 8, ground := Ground.guard }], guard := some (8, true) }) rfl (by kernel_rfl) (by kernel_rfl) (by kernel_rfl) (fun _ _ _ h => h) (Or.inr ⟨by rfl, rfl⟩) (by assumption) ?_
    try simp only [Act.put, List.setIfInBounds_toArray, List.set_cons_zero, List.set_cons_succ]
    refine wpAnyH_take (i := 10) (oi := { dst := some 32, op := Op.load 3 (Operand.tmp 31), type := 3, pos := "ref.go:97", after := #[{ on := 9, ground := Ground.data }, { on := 8, ground := Ground.guard }], guard := some (8, true) }) rfl (by kernel_rfl) (by kernel_rfl) (by kernel_rfl) (fun _ _ _ h => h) (Or.inr ⟨by rfl, rfl⟩) (by assumption) ?_
    try simp only [Act.put, List.setIfInBounds_toArray, List.set_cons_zero, List.set_cons_succ]
    refine wpAnyH_take (i := 11) (oi := { dst := some 33, op := Op.binOp BinOp.eql 3 (Operand.tmp 32) (Operand.const (Value.int IntKind.i64 0)) 3, type := 4, pos := "ref.go:97", after := #[{ on := 10, ground := Ground.data }, { on := 8, ground := Ground.guard }], guard := some (8, true) }) rfl (by kernel_rfl) (by kernel_rfl) (by kernel_rfl) (fun _ _ _ h => h) (Or.inr ⟨by rfl, rfl⟩) (by assumption) ?_
    try simp only [Act.put, List.setIfInBounds_toArray, List.set_cons_zero, List.set_cons_succ]
    refine wpAnyH_take (i := 12) (oi := { dst := some 34, op := Op.pick (Operand.tmp 30) (Operand.tmp 33) (Operand.const (Value.bool false)), type := 4, pos := "ref.go:97", after := #[{ on := 8, ground := Ground.data }, { on := 11, ground := Ground.data }], guard := none }) (v := ?va12) rfl (by kernel_rfl) (by kernel_rfl) (by kernel_rfl) (fun _ _ _ h => h) (Or.inl ⟨by rfl, ?hya12⟩) (by assumption) ?resta12
    case hya12 => (intro w hSw; (try dsimp only at hSw); go_simp; (try with_reducible rfl))
    try simp only [Act.put, List.setIfInBounds_toArray, List.set_cons_zero, List.set_cons_succ]
    refine wpAnyH_take (i := 13) (oi := { dst := some 35, op := Op.move (Operand.tmp 34), type := 4, pos := "ref.go:97", after := #[{ on := 12, ground := Ground.data }, { on := 8, ground := Ground.chain }], guard := none }) (v := ?va13) rfl (by kernel_rfl) (by kernel_rfl) (by kernel_rfl) (fun _ _ _ h => h) (Or.inl ⟨by rfl, ?hya13⟩) (by assumption) ?resta13
    case hya13 => (intro w hSw; (try dsimp only at hSw); go_simp; (try with_reducible rfl))
    try simp only [Act.put, List.setIfInBounds_toArray, List.set_cons_zero, List.set_cons_succ]
    refine wpAnyH_take (i := 14) (oi := { dst := some 36, op := Op.fieldAddr 50 (Operand.tmp 1) 2, type := 0, pos := "ref.go:97", after := #[{ on := 13, ground := Ground.guard }], guard := some (13, true) }) rfl (by kernel_rfl) (by kernel_rfl) (by kernel_rfl) (fun _ _ _ h => h) (Or.inr ⟨by rfl, rfl⟩) (by assumption) ?_
    try simp only [Act.put, List.setIfInBounds_toArray, List.set_cons_zero, List.set_cons_succ]
    refine wpAnyH_take (i := 15) (oi := { dst := some 37, op := Op.load 3 (Operand.tmp 36), type := 3, pos := "ref.go:97", after := #[{ on := 14, ground := Ground.data }, { on := 13, ground := Ground.guard }], guard := some (13, true) }) rfl (by kernel_rfl) (by kernel_rfl) (by kernel_rfl) (fun _ _ _ h => h) (Or.inr ⟨by rfl, rfl⟩) (by assumption) ?_
    try simp only [Act.put, List.setIfInBounds_toArray, List.set_cons_zero, List.set_cons_succ]
    refine wpAnyH_take (i := 16) (oi := { dst := some 38, op := Op.binOp BinOp.eql 3 (Operand.tmp 37) (Operand.const (Value.int IntKind.i64 0)) 3, type := 4, pos := "ref.go:97", after := #[{ on := 15, ground := Ground.data }, { on := 13, ground := Ground.guard }], guard := some (13, true) }) rfl (by kernel_rfl) (by kernel_rfl) (by kernel_rfl) (fun _ _ _ h => h) (Or.inr ⟨by rfl, rfl⟩) (by assumption) ?_
    try simp only [Act.put, List.setIfInBounds_toArray, List.set_cons_zero, List.set_cons_succ]
    refine wpAnyH_take (i := 17) (oi := { dst := some 39, op := Op.pick (Operand.tmp 35) (Operand.tmp 38) (Operand.const (Value.bool false)), type := 4, pos := "ref.go:97", after := #[{ on := 13, ground := Ground.data }, { on := 16, ground := Ground.data }], guard := none }) (v := ?va17) rfl (by kernel_rfl) (by kernel_rfl) (by kernel_rfl) (fun _ _ _ h => h) (Or.inl ⟨by rfl, ?hya17⟩) (by assumption) ?resta17
    case hya17 => (intro w hSw; (try dsimp only at hSw); go_simp; (try with_reducible rfl))
    try simp only [Act.put, List.setIfInBounds_toArray, List.set_cons_zero, List.set_cons_succ]
    refine wpAnyH_take (i := 18) (oi := { dst := some 40, op := Op.move (Operand.tmp 39), type := 4, pos := "ref.go:97", after := #[{ on := 17, ground := Ground.data }, { on := 13, ground := Ground.chain }], guard := none }) (v := ?va18) rfl (by kernel_rfl) (by kernel_rfl) (by kernel_rfl) (fun _ _ _ h => h) (Or.inl ⟨by rfl, ?hya18⟩) (by assumption) ?resta18
    case hya18 => (intro w hSw; (try dsimp only at hSw); go_simp; (try with_reducible rfl))
    try simp only [Act.put, List.setIfInBounds_toArray, List.set_cons_zero, List.set_cons_succ]
    refine wpAnyH_take (i := 19) (oi := { dst := some 41, op := Op.fieldAddr 50 (Operand.tmp 1) 3, type := 0, pos := "ref.go:97", after := #[{ on := 18, ground := Ground.guard }, { on := 23, ground := Ground.gcOnly Departure.lateStores }], guard := some (18, true) }) rfl (by kernel_rfl) (by kernel_rfl) (by kernel_rfl) (fun _ _ _ h => h) (Or.inr ⟨by rfl, rfl⟩) (by assumption) ?_
    try simp only [Act.put, List.setIfInBounds_toArray, List.set_cons_zero, List.set_cons_succ]
    refine wpAnyH_take (i := 20) (oi := { dst := some 42, op := Op.load 3 (Operand.tmp 41), type := 3, pos := "ref.go:97", after := #[{ on := 19, ground := Ground.data }, { on := 18, ground := Ground.guard }, { on := 23, ground := Ground.gcOnly Departure.lateStores }], guard := some (18, true) }) rfl (by kernel_rfl) (by kernel_rfl) (by kernel_rfl) (fun _ _ _ h => h) (Or.inr ⟨by rfl, rfl⟩) (by assumption) ?_
    try simp only [Act.put, List.setIfInBounds_toArray, List.set_cons_zero, List.set_cons_succ]
    refine wpAnyH_take (i := 21) (oi := { dst := some 43, op := Op.binOp BinOp.eql 3 (Operand.tmp 42) (Operand.const (Value.int IntKind.i64 0)) 3, type := 4, pos := "ref.go:97", after := #[{ on := 20, ground := Ground.data }, { on := 18, ground := Ground.guard }, { on := 23, ground := Ground.gcOnly Departure.lateStores }], guard := some (18, true) }) rfl (by kernel_rfl) (by kernel_rfl) (by kernel_rfl) (fun _ _ _ h => h) (Or.inr ⟨by rfl, rfl⟩) (by assumption) ?_
    try simp only [Act.put, List.setIfInBounds_toArray, List.set_cons_zero, List.set_cons_succ]
    refine wpAnyH_take (i := 22) (oi := { dst := some 44, op := Op.pick (Operand.tmp 40) (Operand.tmp 43) (Operand.const (Value.bool false)), type := 4, pos := "ref.go:97", after := #[{ on := 18, ground := Ground.data }, { on := 21, ground := Ground.data }, { on := 23, ground := Ground.gcOnly Departure.lateStores }], guard := none }) (v := ?va22) rfl (by kernel_rfl) (by kernel_rfl) (by kernel_rfl) (fun _ _ _ h => h) (Or.inl ⟨by rfl, ?hya22⟩) (by assumption) ?resta22
    case hya22 => (intro w hSw; (try dsimp only at hSw); go_simp; (try with_reducible rfl))
    try simp only [Act.put, List.setIfInBounds_toArray, List.set_cons_zero, List.set_cons_succ]
    refine wpAnyH_take (i := 23) (oi := { dst := some 2, op := Op.assign (Operand.tmp 28), type := 9, pos := "ref.go:97", after := #[{ on := 6, ground := Ground.data }, { on := 18, ground := Ground.chain }, { on := 0, ground := Ground.phase }, { on := 1, ground := Ground.phase }, { on := 2, ground := Ground.phase }, { on := 3, ground := Ground.phase }, { on := 4, ground := Ground.phase }, { on := 5, ground := Ground.phase }, { on := 6, ground := Ground.phase }, { on := 7, ground := Ground.textOnly Departure.lateStores }, { on := 8, ground := Ground.textOnly Departure.lateStores }, { on := 9, ground := Ground.textOnly Departure.lateStores }, { on := 10, ground := Ground.textOnly Departure.lateStores }, { on := 11, ground := Ground.textOnly Departure.lateStores }, { on := 12, ground := Ground.textOnly Departure.lateStores }, { on := 13, ground := Ground.textOnly Departure.lateStores }, { on := 14, ground := Ground.textOnly Departure.lateStores }, { on := 15, ground := Ground.textOnly Departure.lateStores }, { on := 16, ground := Ground.textOnly Departure.lateStores }, { on := 17, ground := Ground.textOnly Departure.lateStores }, { on := 18, ground := Ground.textOnly Departure.lateStores }, { on := 19, ground := Ground.textOnly Departure.lateStores }, { on := 20, ground := Ground.textOnly Departure.lateStores }, { on := 21, ground := Ground.textOnly Departure.lateStores }, { on := 22, ground := Ground.textOnly Departure.lateStores }], guard := none }) (v := ?va23) rfl (by kernel_rfl) (by kernel_rfl) (by kernel_rfl) (fun _ _ _ h => h) (Or.inl ⟨by rfl, ?hya23⟩) (by assumption) ?resta23
    case hya23 => (intro w hSw; (try dsimp only at hSw); go_simp; (try with_reducible rfl))
    try simp only [Act.put, List.setIfInBounds_toArray, List.set_cons_zero, List.set_cons_succ]
    refine wpAnyH_take (i := 24) (oi := { dst := some 3, op := Op.assign (Operand.tmp 44), type := 4, pos := "ref.go:97", after := #[{ on := 22, ground := Ground.data }, { on := 23, ground := Ground.chain }, { on := 0, ground := Ground.phase }, { on := 1, ground := Ground.phase }, { on := 2, ground := Ground.phase }, { on := 3, ground := Ground.phase }, { on := 4, ground := Ground.phase }, { on := 5, ground := Ground.phase }, { on := 6, ground := Ground.phase }, { on := 7, ground := Ground.phase }, { on := 8, ground := Ground.phase }, { on := 9, ground := Ground.phase }, { on := 10, ground := Ground.phase }, { on := 11, ground := Ground.phase }, { on := 12, ground := Ground.phase }, { on := 13, ground := Ground.phase }, { on := 14, ground := Ground.phase }, { on := 15, ground := Ground.phase }, { on := 16, ground := Ground.phase }, { on := 17, ground := Ground.phase }, { on := 18, ground := Ground.phase }, { on := 19, ground := Ground.phase }, { on := 20, ground := Ground.phase }, { on := 21, ground := Ground.phase }, { on := 22, ground := Ground.phase }, { on := 23, ground := Ground.phase }], guard := none }) (v := ?va24) rfl (by kernel_rfl) (by kernel_rfl) (by kernel_rfl) (fun _ _ _ h => h) (Or.inl ⟨by rfl, ?hya24⟩) (by assumption) ?resta24
    case hya24 => (intro w hSw; (try dsimp only at hSw); go_simp; (try with_reducible rfl))
    try simp only [Act.put, List.setIfInBounds_toArray, List.set_cons_zero, List.set_cons_succ]
    refine wpAnyH_done (by kernel_rfl) ?_ _
    have B5 := Lib.hid (B3.out.trans (hHeld1.1.mono B3.out.size))
    clear hHeld1
    go_wp2_with fail
    go_ret2
    exact ⟨({ data := #[97, 115, 107, 32] } : ByteArray) ++ Q ++ s, rfl, (by intro h; cases h), B5.out⟩
  | true =>
    by_cases hnd : nd = 0
    case neg =>
      have g1 : (nd == 0) = false := by simpa using hnd
      have g2 : decide (nd = 0) = false := decide_eq_false hnd
      obtain rfl : zz = false := F1.out hnd
      clear F0 F1 F2 F3 F4
      clear hnd
      go_upto_region 3 with fail
      refine wp_region_held_drew (S := (fun w' => Below w3.heap.size w3 w' ∧ w'.cell? ⟨w.heap.size, 1, none⟩ = some (.int .i64 nd) ∧ w'.cell? ⟨w.heap.size, 2, none⟩ = some (.int .i64 pl) ∧ w'.cell? ⟨w.heap.size, 3, none⟩ = some (.int .i64 ex) ∧ w'.cell? ⟨w.heap.size, 4, none⟩ = some (.string t))) (by kernel_rfl) (evs_carry S3.out (Below.refl _ _).drew) (fun hHeld0 => ?_)
      refine wpAnyH_take (i := 0) (oi := { dst := some 22, op := Op.fieldAddr 50 (Operand.tmp 1) 4, type := 0, pos := "ref.go:97", after := #[], guard := none }) (v := ?vb0) rfl (by kernel_rfl) (by kernel_rfl) (by kernel_rfl) (fun _ _ _ h => h) (Or.inl ⟨by rfl, ?hyb0⟩) (by assumption) ?restb0
      case hyb0 => (intro w hSw; (try dsimp only at hSw); go_simp; (try with_reducible rfl))
      try simp only [Act.put, List.setIfInBounds_toArray, List.set_cons_zero, List.set_cons_succ]
      refine wpAnyH_take (i := 1) (oi := { dst := some 23, op := Op.fieldAddr 48 (Operand.tmp 22) 0, type := 0, pos := "ref.go:97", after := #[{ on := 0, ground := Ground.data }], guard := none }) (v := ?vb1) rfl (by kernel_rfl) (by kernel_rfl) (by kernel_rfl) (fun _ _ _ h => h) (Or.inl ⟨by rfl, ?hyb1⟩) (by assumption) ?restb1
      case hyb1 => (intro w hSw; (try dsimp only at hSw); go_simp; (try with_reducible rfl))
      try simp only [Act.put, List.setIfInBounds_toArray, List.set_cons_zero, List.set_cons_succ]
      refine wpAnyH_take (i := 2) (oi := { dst := some 24, op := Op.load 9 (Operand.tmp 23), type := 9, pos := "ref.go:97", after := #[{ on := 1, ground := Ground.data }], guard := none }) (v := ?vb2) rfl (by kernel_rfl) (by kernel_rfl) (by kernel_rfl) (fun _ _ _ h => h) (Or.inl ⟨by rfl, ?hyb2⟩) (by assumption) ?restb2
      case hyb2 => (intro w hSw; (try dsimp only at hSw); go_simp; (try with_reducible rfl))
      try simp only [Act.put, List.setIfInBounds_toArray, List.set_cons_zero, List.set_cons_succ]
      refine wpAnyH_take (i := 5) (oi := { dst := some 27, op := Op.move (Operand.tmp 4), type := 9, pos := "ref.go:97", after := #[], guard := none }) (v := ?vb5) rfl (by kernel_rfl) (by kernel_rfl) (by kernel_rfl) (fun _ _ _ h => h) (Or.inl ⟨by rfl, ?hyb5⟩) (by assumption) ?restb5
      case hyb5 => (intro w hSw; (try dsimp only at hSw); go_simp; (try with_reducible rfl))
      try simp only [Act.put, List.setIfInBounds_toArray, List.set_cons_zero, List.set_cons_succ]
      refine wpAnyH_take (i := 7) (oi := { dst := some 29, op := Op.move (Operand.tmp 5), type := 4, pos := "ref.go:97", after := #[], guard := none }) (v := ?vb7) rfl (by kernel_rfl) (by kernel_rfl) (by kernel_rfl) (fun _ _ _ h => h) (Or.inl ⟨by rfl, ?hyb7⟩) (by assumption) ?restb7
      case hyb7 => (intro w hSw; (try dsimp only at hSw); go_simp; (try with_reducible rfl))
      try simp only [Act.put, List.setIfInBounds_toArray, List.set_cons_zero, List.set_cons_succ]
      refine wpAnyH_ready (rs := [3]) (by kernel_rfl) (by simp) ?_
      refine AllReadyH.cons (o := { dst := some 25, op := Op.call { callee := Callee.value (Operand.func 12), args := #[Operand.tmp 24], argTypes := #[9] }, type := 9, pos := "ref.go:97", after := #[{ on := 2, ground := Ground.data }], guard := none }) rfl (fun K hK => ?_) AllReadyH.nil
      go_simp
      go_at_call 12
      refine (CQ.out _).mono ?_
      rintro e' w5 ⟨rfl, hb⟩
      go_wp2_with fail
      refine hK.out _ _ ?_ (fun hHeld1 => ?_)
      · exact evs_carry hHeld0 hb
      clear hK K hHeld0 hb
      try simp only [Act.put, List.setIfInBounds_toArray, List.set_cons_zero, List.set_cons_succ]
      refine wpAnyH_take (i := 4) (oi := { dst := some 26, op := Op.binOp BinOp.add 9 (Operand.const (Value.string { data := #[97, 115, 107, 32] })) (Operand.tmp 25) 9, type := 9, pos := "ref.go:97", after := #[{ on := 3, ground := Ground.data }], guard := none }) (v := ?vb4) rfl (by kernel_rfl) (by kernel_rfl) (by kernel_rfl) (fun _ _ _ h => h) (Or.inl ⟨by rfl, ?hyb4⟩) (by assumption) ?restb4
      case hyb4 => (intro w hSw; (try dsimp only at hSw); go_simp; (try with_reducible rfl))
      try simp only [Act.put, List.setIfInBounds_toArray, List.set_cons_zero, List.set_cons_succ]
      refine wpAnyH_take (i := 6) (oi := { dst := some 28, op := Op.binOp BinOp.add 9 (Operand.tmp 26) (Operand.tmp 27) 9, type := 9, pos := "ref.go:97", after := #[{ on := 4, ground := Ground.data }, { on := 5, ground := Ground.data }], guard := none }) (v := ?vb6) rfl (by kernel_rfl) (by kernel_rfl) (by kernel_rfl) (fun _ _ _ h => h) (Or.inl ⟨by rfl, ?hyb6⟩) (by assumption) ?restb6
      case hyb6 => (intro w hSw; (try dsimp only at hSw); go_simp; (try with_reducible rfl))
      try simp only [Act.put, List.setIfInBounds_toArray, List.set_cons_zero, List.set_cons_succ]
      refine wpAnyH_take (i := 8) (oi := { dst := some 30, op := Op.move (Operand.tmp 29), type := 4, pos := "ref.go:97", after := #[{ on := 7, ground := Ground.data }, { on := 3, ground := Ground.chain }], guard := none }) (v := ?vb8) rfl (by kernel_rfl) (by kernel_rfl) (by kernel_rfl) (fun _ _ _ h => h) (Or.inl ⟨by rfl, ?hyb8⟩) (by assumption) ?restb8
      case hyb8 => (intro w hSw; (try dsimp only at hSw); go_simp; (try with_reducible rfl))
      try simp only [Act.put, List.setIfInBounds_toArray, List.set_cons_zero, List.set_cons_succ]
      refine wpAnyH_take (i := 9) (oi := { dst := some 31, op := Op.fieldAddr 50 (Operand.tmp 1) 1, type := 0, pos := "ref.go:97", after := #[{ on := 8, ground := Ground.guard }], guard := some (8, true) }) (v := ?vb9) rfl (by kernel_rfl) (by kernel_rfl) (by kernel_rfl) (fun _ _ _ h => h) (Or.inl ⟨by rfl, ?hyb9⟩) (by assumption) ?restb9
      case hyb9 => (intro w hSw; (try dsimp only at hSw); go_simp; (try with_reducible rfl))
      try simp only [Act.put, List.setIfInBounds_toArray, List.set_cons_zero, List.set_cons_succ]
      refine wpAnyH_take (i := 10) (oi := { dst := some 32, op := Op.load 3 (Operand.tmp 31), type := 3, pos := "ref.go:97", after := #[{ on := 9, ground := Ground.data }, { on := 8, ground := Ground.guard }], guard := some (8, true) }) (v := ?vb10) rfl (by kernel_rfl) (by kernel_rfl) (by kernel_rfl) (fun _ _ _ h => h) (Or.inl ⟨by rfl, ?hyb10⟩) (by assumption) ?restb10
      case hyb10 => (intro w hSw; (try dsimp only at hSw); go_simp; (try with_reducible rfl))
      try simp only [Act.put, List.setIfInBounds_toArray, List.set_cons_zero, List.set_cons_succ]
      refine wpAnyH_take (i := 11) (oi := { dst := some 33, op := Op.binOp BinOp.eql 3 (Operand.tmp 32) (Operand.const (Value.int IntKind.i64 0)) 3, type := 4, pos := "ref.go:97", after := #[{ on := 10, ground := Ground.data }, { on := 8, ground := Ground.guard }], guard := some (8, true) }) (v := ?vb11) rfl (by kernel_rfl) (by kernel_rfl) (by kernel_rfl) (fun _ _ _ h => h) (Or.inl ⟨by rfl, ?hyb11⟩) (by assumption) ?restb11
      case hyb11 => (intro w hSw; (try dsimp only at hSw); go_simp; (try with_reducible rfl))
      try simp only [Act.put, List.setIfInBounds_toArray, List.set_cons_zero, List.set_cons_succ]
      refine wpAnyH_take (i := 12) (oi := { dst := some 34, op := Op.pick (Operand.tmp 30) (Operand.tmp 33) (Operand.const (Value.bool false)), type := 4, pos := "ref.go:97", after := #[{ on := 8, ground := Ground.data }, { on := 11, ground := Ground.data }], guard := none }) (v := ?vb12) rfl (by kernel_rfl) (by kernel_rfl) (by kernel_rfl) (fun _ _ _ h => h) (Or.inl ⟨by rfl, ?hyb12⟩) (by assumption) ?restb12
      case hyb12 => (intro w hSw; (try dsimp only at hSw); go_simp; (try with_reducible rfl))
      try simp only [Act.put, List.setIfInBounds_toArray, List.set_cons_zero, List.set_cons_succ]
      refine wpAnyH_take (i := 13) (oi := { dst := some 35, op := Op.move (Operand.tmp 34), type := 4, pos := "ref.go:97", after := #[{ on := 12, ground := Ground.data }, { on := 8, ground := Ground.chain }], guard := none }) (v := ?vb13) rfl (by kernel_rfl) (by kernel_rfl) (by kernel_rfl) (fun _ _ _ h => h) (Or.inl ⟨by rfl, ?hyb13⟩) (by assumption) ?restb13
      case hyb13 => (intro w hSw; (try dsimp only at hSw); go_simp; (try with_reducible rfl))
      try simp only [Act.put, List.setIfInBounds_toArray, List.set_cons_zero, List.set_cons_succ]
      refine wpAnyH_take (i := 14) (oi := { dst := some 36, op := Op.fieldAddr 50 (Operand.tmp 1) 2, type := 0, pos := "ref.go:97", after := #[{ on := 13, ground := Ground.guard }], guard := some (13, true) }) rfl (by kernel_rfl) (by kernel_rfl) (by kernel_rfl) (fun _ _ _ h => h) (Or.inr ⟨by rfl, rfl⟩) (by assumption) ?_
      try simp only [Act.put, List.setIfInBounds_toArray, List.set_cons_zero, List.set_cons_succ]
      refine wpAnyH_take (i := 15) (oi := { dst := some 37, op := Op.load 3 (Operand.tmp 36), type := 3, pos := "ref.go:97", after := #[{ on := 14, ground := Ground.data }, { on := 13, ground := Ground.guard }], guard := some (13, true) }) rfl (by kernel_rfl) (by kernel_rfl) (by kernel_rfl) (fun _ _ _ h => h) (Or.inr ⟨by rfl, rfl⟩) (by assumption) ?_
      try simp only [Act.put, List.setIfInBounds_toArray, List.set_cons_zero, List.set_cons_succ]
      refine wpAnyH_take (i := 16) (oi := { dst := some 38, op := Op.binOp BinOp.eql 3 (Operand.tmp 37) (Operand.const (Value.int IntKind.i64 0)) 3, type := 4, pos := "ref.go:97", after := #[{ on := 15, ground := Ground.data }, { on := 13, ground := Ground.guard }], guard := some (13, true) }) rfl (by kernel_rfl) (by kernel_rfl) (by kernel_rfl) (fun _ _ _ h => h) (Or.inr ⟨by rfl, rfl⟩) (by assumption) ?_
      try simp only [Act.put, List.setIfInBounds_toArray, List.set_cons_zero, List.set_cons_succ]
      refine wpAnyH_take (i := 17) (oi := { dst := some 39, op := Op.pick (Operand.tmp 35) (Operand.tmp 38) (Operand.const (Value.bool false)), type := 4, pos := "ref.go:97", after := #[{ on := 13, ground := Ground.data }, { on := 16, ground := Ground.data }], guard := none }) (v := ?vb17) rfl (by kernel_rfl) (by kernel_rfl) (by kernel_rfl) (fun _ _ _ h => h) (Or.inl ⟨by rfl, ?hyb17⟩) (by assumption) ?restb17
      case hyb17 => (intro w hSw; (try dsimp only at hSw); go_simp; (try with_reducible rfl))
      try simp only [Act.put, List.setIfInBounds_toArray, List.set_cons_zero, List.set_cons_succ]
      refine wpAnyH_take (i := 18) (oi := { dst := some 40, op := Op.move (Operand.tmp 39), type := 4, pos := "ref.go:97", after := #[{ on := 17, ground := Ground.data }, { on := 13, ground := Ground.chain }], guard := none }) (v := ?vb18) rfl (by kernel_rfl) (by kernel_rfl) (by kernel_rfl) (fun _ _ _ h => h) (Or.inl ⟨by rfl, ?hyb18⟩) (by assumption) ?restb18
      case hyb18 => (intro w hSw; (try dsimp only at hSw); go_simp; (try with_reducible rfl))
      try simp only [Act.put, List.setIfInBounds_toArray, List.set_cons_zero, List.set_cons_succ]
      refine wpAnyH_take (i := 19) (oi := { dst := some 41, op := Op.fieldAddr 50 (Operand.tmp 1) 3, type := 0, pos := "ref.go:97", after := #[{ on := 18, ground := Ground.guard }, { on := 23, ground := Ground.gcOnly Departure.lateStores }], guard := some (18, true) }) rfl (by kernel_rfl) (by kernel_rfl) (by kernel_rfl) (fun _ _ _ h => h) (Or.inr ⟨by rfl, rfl⟩) (by assumption) ?_
      try simp only [Act.put, List.setIfInBounds_toArray, List.set_cons_zero, List.set_cons_succ]
      refine wpAnyH_take (i := 20) (oi := { dst := some 42, op := Op.load 3 (Operand.tmp 41), type := 3, pos := "ref.go:97", after := #[{ on := 19, ground := Ground.data }, { on := 18, ground := Ground.guard }, { on := 23, ground := Ground.gcOnly Departure.lateStores }], guard := some (18, true) }) rfl (by kernel_rfl) (by kernel_rfl) (by kernel_rfl) (fun _ _ _ h => h) (Or.inr ⟨by rfl, rfl⟩) (by assumption) ?_
      try simp only [Act.put, List.setIfInBounds_toArray, List.set_cons_zero, List.set_cons_succ]
      refine wpAnyH_take (i := 21) (oi := { dst := some 43, op := Op.binOp BinOp.eql 3 (Operand.tmp 42) (Operand.const (Value.int IntKind.i64 0)) 3, type := 4, pos := "ref.go:97", after := #[{ on := 20, ground := Ground.data }, { on := 18, ground := Ground.guard }, { on := 23, ground := Ground.gcOnly Departure.lateStores }], guard := some (18, true) }) rfl (by kernel_rfl) (by kernel_rfl) (by kernel_rfl) (fun _ _ _ h => h) (Or.inr ⟨by rfl, rfl⟩) (by assumption) ?_
      try simp only [Act.put, List.setIfInBounds_toArray, List.set_cons_zero, List.set_cons_succ]
      refine wpAnyH_take (i := 22) (oi := { dst := some 44, op := Op.pick (Operand.tmp 40) (Operand.tmp 43) (Operand.const (Value.bool false)), type := 4, pos := "ref.go:97", after := #[{ on := 18, ground := Ground.data }, { on := 21, ground := Ground.data }, { on := 23, ground := Ground.gcOnly Departure.lateStores }], guard := none }) (v := ?vb22) rfl (by kernel_rfl) (by kernel_rfl) (by kernel_rfl) (fun _ _ _ h => h) (Or.inl ⟨by rfl, ?hyb22⟩) (by assumption) ?restb22
      case hyb22 => (intro w hSw; (try dsimp only at hSw); go_simp; (try with_reducible rfl))
      try simp only [Act.put, List.setIfInBounds_toArray, List.set_cons_zero, List.set_cons_succ]
      refine wpAnyH_take (i := 23) (oi := { dst := some 2, op := Op.assign (Operand.tmp 28), type := 9, pos := "ref.go:97", after := #[{ on := 6, ground := Ground.data }, { on := 18, ground := Ground.chain }, { on := 0, ground := Ground.phase }, { on := 1, ground := Ground.phase }, { on := 2, ground := Ground.phase }, { on := 3, ground := Ground.phase }, { on := 4, ground := Ground.phase }, { on := 5, ground := Ground.phase }, { on := 6, ground := Ground.phase }, { on := 7, ground := Ground.textOnly Departure.lateStores }, { on := 8, ground := Ground.textOnly Departure.lateStores }, { on := 9, ground := Ground.textOnly Departure.lateStores }, { on := 10, ground := Ground.textOnly Departure.lateStores }, { on := 11, ground := Ground.textOnly Departure.lateStores }, { on := 12, ground := Ground.textOnly Departure.lateStores }, { on := 13, ground := Ground.textOnly Departure.lateStores }, { on := 14, ground := Ground.textOnly Departure.lateStores }, { on := 15, ground := Ground.textOnly Departure.lateStores }, { on := 16, ground := Ground.textOnly Departure.lateStores }, { on := 17, ground := Ground.textOnly Departure.lateStores }, { on := 18, ground := Ground.textOnly Departure.lateStores }, { on := 19, ground := Ground.textOnly Departure.lateStores }, { on := 20, ground := Ground.textOnly Departure.lateStores }, { on := 21, ground := Ground.textOnly Departure.lateStores }, { on := 22, ground := Ground.textOnly Departure.lateStores }], guard := none }) (v := ?vb23) rfl (by kernel_rfl) (by kernel_rfl) (by kernel_rfl) (fun _ _ _ h => h) (Or.inl ⟨by rfl, ?hyb23⟩) (by assumption) ?restb23
      case hyb23 => (intro w hSw; (try dsimp only at hSw); go_simp; (try with_reducible rfl))
      try simp only [Act.put, List.setIfInBounds_toArray, List.set_cons_zero, List.set_cons_succ]
      refine wpAnyH_take (i := 24) (oi := { dst := some 3, op := Op.assign (Operand.tmp 44), type := 4, pos := "ref.go:97", after := #[{ on := 22, ground := Ground.data }, { on := 23, ground := Ground.chain }, { on := 0, ground := Ground.phase }, { on := 1, ground := Ground.phase }, { on := 2, ground := Ground.phase }, { on := 3, ground := Ground.phase }, { on := 4, ground := Ground.phase }, { on := 5, ground := Ground.phase }, { on := 6, ground := Ground.phase }, { on := 7, ground := Ground.phase }, { on := 8, ground := Ground.phase }, { on := 9, ground := Ground.phase }, { on := 10, ground := Ground.phase }, { on := 11, ground := Ground.phase }, { on := 12, ground := Ground.phase }, { on := 13, ground := Ground.phase }, { on := 14, ground := Ground.phase }, { on := 15, ground := Ground.phase }, { on := 16, ground := Ground.phase }, { on := 17, ground := Ground.phase }, { on := 18, ground := Ground.phase }, { on := 19, ground := Ground.phase }, { on := 20, ground := Ground.phase }, { on := 21, ground := Ground.phase }, { on := 22, ground := Ground.phase }, { on := 23, ground := Ground.phase }], guard := none }) (v := ?vb24) rfl (by kernel_rfl) (by kernel_rfl) (by kernel_rfl) (fun _ _ _ h => h) (Or.inl ⟨by rfl, ?hyb24⟩) (by assumption) ?restb24
      case hyb24 => (intro w hSw; (try dsimp only at hSw); go_simp; (try with_reducible rfl))
      try simp only [Act.put, List.setIfInBounds_toArray, List.set_cons_zero, List.set_cons_succ]
      refine wpAnyH_done (by kernel_rfl) ?_ _
      have B5 := Lib.hid (B3.out.trans (hHeld1.1.mono B3.out.size))
      clear hHeld1
      go_wp2_with fail
      go_ret2
      exact ⟨({ data := #[97, 115, 107, 32] } : ByteArray) ++ Q ++ s, rfl, (by intro h; cases h), B5.out⟩
    subst hnd
    by_cases hpl : pl = 0
    case neg =>
      have g1 : (pl == 0) = false := by simpa using hpl
      have g2 : decide (pl = 0) = false := decide_eq_false hpl
      obtain rfl : zz = false := F2.out hpl
      clear F0 F1 F2 F3 F4
      clear hpl
      go_upto_region 3 with fail
      refine wp_region_held_drew (S := (fun w' => Below w3.heap.size w3 w' ∧ w'.cell? ⟨w.heap.size, 1, none⟩ = some (.int .i64 0) ∧ w'.cell? ⟨w.heap.size, 2, none⟩ = some (.int .i64 pl) ∧ w'.cell? ⟨w.heap.size, 3, none⟩ = some (.int .i64 ex) ∧ w'.cell? ⟨w.heap.size, 4, none⟩ = some (.string t))) (by kernel_rfl) (evs_carry S3.out (Below.refl _ _).drew) (fun hHeld0 => ?_)
      refine wpAnyH_take (i := 0) (oi := { dst := some 22, op := Op.fieldAddr 50 (Operand.tmp 1) 4, type := 0, pos := "ref.go:97", after := #[], guard := none }) (v := ?vc0) rfl (by kernel_rfl) (by kernel_rfl) (by kernel_rfl) (fun _ _ _ h => h) (Or.inl ⟨by rfl, ?hyc0⟩) (by assumption) ?restc0
      case hyc0 => (intro w hSw; (try dsimp only at hSw); go_simp; (try with_reducible rfl))
      try simp only [Act.put, List.setIfInBounds_toArray, List.set_cons_zero, List.set_cons_succ]
      refine wpAnyH_take (i := 1) (oi := { dst := some 23, op := Op.fieldAddr 48 (Operand.tmp 22) 0, type := 0, pos := "ref.go:97", after := #[{ on := 0, ground := Ground.data }], guard := none }) (v := ?vc1) rfl (by kernel_rfl) (by kernel_rfl) (by kernel_rfl) (fun _ _ _ h => h) (Or.inl ⟨by rfl, ?hyc1⟩) (by assumption) ?restc1
      case hyc1 => (intro w hSw; (try dsimp only at hSw); go_simp; (try with_reducible rfl))
      try simp only [Act.put, List.setIfInBounds_toArray, List.set_cons_zero, List.set_cons_succ]
      refine wpAnyH_take (i := 2) (oi := { dst := some 24, op := Op.load 9 (Operand.tmp 23), type := 9, pos := "ref.go:97", after := #[{ on := 1, ground := Ground.data }], guard := none }) (v := ?vc2) rfl (by kernel_rfl) (by kernel_rfl) (by kernel_rfl) (fun _ _ _ h => h) (Or.inl ⟨by rfl, ?hyc2⟩) (by assumption) ?restc2
      case hyc2 => (intro w hSw; (try dsimp only at hSw); go_simp; (try with_reducible rfl))
      try simp only [Act.put, List.setIfInBounds_toArray, List.set_cons_zero, List.set_cons_succ]
      refine wpAnyH_take (i := 5) (oi := { dst := some 27, op := Op.move (Operand.tmp 4), type := 9, pos := "ref.go:97", after := #[], guard := none }) (v := ?vc5) rfl (by kernel_rfl) (by kernel_rfl) (by kernel_rfl) (fun _ _ _ h => h) (Or.inl ⟨by rfl, ?hyc5⟩) (by assumption) ?restc5
      case hyc5 => (intro w hSw; (try dsimp only at hSw); go_simp; (try with_reducible rfl))
      try simp only [Act.put, List.setIfInBounds_toArray, List.set_cons_zero, List.set_cons_succ]
      refine wpAnyH_take (i := 7) (oi := { dst := some 29, op := Op.move (Operand.tmp 5), type := 4, pos := "ref.go:97", after := #[], guard := none }) (v := ?vc7) rfl (by kernel_rfl) (by kernel_rfl) (by kernel_rfl) (fun _ _ _ h => h) (Or.inl ⟨by rfl, ?hyc7⟩) (by assumption) ?restc7
      case hyc7 => (intro w hSw; (try dsimp only at hSw); go_simp; (try with_reducible rfl))
      try simp only [Act.put, List.setIfInBounds_toArray, List.set_cons_zero, List.set_cons_succ]
      refine wpAnyH_ready (rs := [3]) (by kernel_rfl) (by simp) ?_
      refine AllReadyH.cons (o := { dst := some 25, op := Op.call { callee := Callee.value (Operand.func 12), args := #[Operand.tmp 24], argTypes := #[9] }, type := 9, pos := "ref.go:97", after := #[{ on := 2, ground := Ground.data }], guard := none }) rfl (fun K hK => ?_) AllReadyH.nil
      go_simp
      go_at_call 12
      refine (CQ.out _).mono ?_
      rintro e' w5 ⟨rfl, hb⟩
      go_wp2_with fail
      refine hK.out _ _ ?_ (fun hHeld1 => ?_)
      · exact evs_carry hHeld0 hb
      clear hK K hHeld0 hb
      try simp only [Act.put, List.setIfInBounds_toArray, List.set_cons_zero, List.set_cons_succ]
      refine wpAnyH_take (i := 4) (oi := { dst := some 26, op := Op.binOp BinOp.add 9 (Operand.const (Value.string { data := #[97, 115, 107, 32] })) (Operand.tmp 25) 9, type := 9, pos := "ref.go:97", after := #[{ on := 3, ground := Ground.data }], guard := none }) (v := ?vc4) rfl (by kernel_rfl) (by kernel_rfl) (by kernel_rfl) (fun _ _ _ h => h) (Or.inl ⟨by rfl, ?hyc4⟩) (by assumption) ?restc4
      case hyc4 => (intro w hSw; (try dsimp only at hSw); go_simp; (try with_reducible rfl))
      try simp only [Act.put, List.setIfInBounds_toArray, List.set_cons_zero, List.set_cons_succ]
      refine wpAnyH_take (i := 6) (oi := { dst := some 28, op := Op.binOp BinOp.add 9 (Operand.tmp 26) (Operand.tmp 27) 9, type := 9, pos := "ref.go:97", after := #[{ on := 4, ground := Ground.data }, { on := 5, ground := Ground.data }], guard := none }) (v := ?vc6) rfl (by kernel_rfl) (by kernel_rfl) (by kernel_rfl) (fun _ _ _ h => h) (Or.inl ⟨by rfl, ?hyc6⟩) (by assumption) ?restc6
      case hyc6 => (intro w hSw; (try dsimp only at hSw); go_simp; (try with_reducible rfl))
      try simp only [Act.put, List.setIfInBounds_toArray, List.set_cons_zero, List.set_cons_succ]
      refine wpAnyH_take (i := 8) (oi := { dst := some 30, op := Op.move (Operand.tmp 29), type := 4, pos := "ref.go:97", after := #[{ on := 7, ground := Ground.data }, { on := 3, ground := Ground.chain }], guard := none }) (v := ?vc8) rfl (by kernel_rfl) (by kernel_rfl) (by kernel_rfl) (fun _ _ _ h => h) (Or.inl ⟨by rfl, ?hyc8⟩) (by assumption) ?restc8
      case hyc8 => (intro w hSw; (try dsimp only at hSw); go_simp; (try with_reducible rfl))
      try simp only [Act.put, List.setIfInBounds_toArray, List.set_cons_zero, List.set_cons_succ]
      refine wpAnyH_take (i := 9) (oi := { dst := some 31, op := Op.fieldAddr 50 (Operand.tmp 1) 1, type := 0, pos := "ref.go:97", after := #[{ on := 8, ground := Ground.guard }], guard := some (8, true) }) (v := ?vc9) rfl (by kernel_rfl) (by kernel_rfl) (by kernel_rfl) (fun _ _ _ h => h) (Or.inl ⟨by rfl, ?hyc9⟩) (by assumption) ?restc9
      case hyc9 => (intro w hSw; (try dsimp only at hSw); go_simp; (try with_reducible rfl))
      try simp only [Act.put, List.setIfInBounds_toArray, List.set_cons_zero, List.set_cons_succ]
      refine wpAnyH_take (i := 10) (oi := { dst := some 32, op := Op.load 3 (Operand.tmp 31), type := 3, pos := "ref.go:97", after := #[{ on := 9, ground := Ground.data }, { on := 8, ground := Ground.guard }], guard := some (8, true) }) (v := ?vc10) rfl (by kernel_rfl) (by kernel_rfl) (by kernel_rfl) (fun _ _ _ h => h) (Or.inl ⟨by rfl, ?hyc10⟩) (by assumption) ?restc10
      case hyc10 => (intro w hSw; (try dsimp only at hSw); go_simp; (try with_reducible rfl))
      try simp only [Act.put, List.setIfInBounds_toArray, List.set_cons_zero, List.set_cons_succ]
      refine wpAnyH_take (i := 11) (oi := { dst := some 33, op := Op.binOp BinOp.eql 3 (Operand.tmp 32) (Operand.const (Value.int IntKind.i64 0)) 3, type := 4, pos := "ref.go:97", after := #[{ on := 10, ground := Ground.data }, { on := 8, ground := Ground.guard }], guard := some (8, true) }) (v := ?vc11) rfl (by kernel_rfl) (by kernel_rfl) (by kernel_rfl) (fun _ _ _ h => h) (Or.inl ⟨by rfl, ?hyc11⟩) (by assumption) ?restc11
      case hyc11 => (intro w hSw; (try dsimp only at hSw); go_simp; (try with_reducible rfl))
      try simp only [Act.put, List.setIfInBounds_toArray, List.set_cons_zero, List.set_cons_succ]
      refine wpAnyH_take (i := 12) (oi := { dst := some 34, op := Op.pick (Operand.tmp 30) (Operand.tmp 33) (Operand.const (Value.bool false)), type := 4, pos := "ref.go:97", after := #[{ on := 8, ground := Ground.data }, { on := 11, ground := Ground.data }], guard := none }) (v := ?vc12) rfl (by kernel_rfl) (by kernel_rfl) (by kernel_rfl) (fun _ _ _ h => h) (Or.inl ⟨by rfl, ?hyc12⟩) (by assumption) ?restc12
      case hyc12 => (intro w hSw; (try dsimp only at hSw); go_simp; (try with_reducible rfl))
      try simp only [Act.put, List.setIfInBounds_toArray, List.set_cons_zero, List.set_cons_succ]
      refine wpAnyH_take (i := 13) (oi := { dst := some 35, op := Op.move (Operand.tmp 34), type := 4, pos := "ref.go:97", after := #[{ on := 12, ground := Ground.data }, { on := 8, ground := Ground.chain }], guard := none }) (v := ?vc13) rfl (by kernel_rfl) (by kernel_rfl) (by kernel_rfl) (fun _ _ _ h => h) (Or.inl ⟨by rfl, ?hyc13⟩) (by assumption) ?restc13
      case hyc13 => (intro w hSw; (try dsimp only at hSw); go_simp; (try with_reducible rfl))
      try simp only [Act.put, List.setIfInBounds_toArray, List.set_cons_zero, List.set_cons_succ]
      refine wpAnyH_take (i := 14) (oi := { dst := some 36, op := Op.fieldAddr 50 (Operand.tmp 1) 2, type := 0, pos := "ref.go:97", after := #[{ on := 13, ground := Ground.guard }], guard := some (13, true) }) (v := ?vc14) rfl (by kernel_rfl) (by kernel_rfl) (by kernel_rfl) (fun _ _ _ h => h) (Or.inl ⟨by rfl, ?hyc14⟩) (by assumption) ?restc14
      case hyc14 => (intro w hSw; (try dsimp only at hSw); go_simp; (try with_reducible rfl))
      try simp only [Act.put, List.setIfInBounds_toArray, List.set_cons_zero, List.set_cons_succ]
      refine wpAnyH_take (i := 15) (oi := { dst := some 37, op := Op.load 3 (Operand.tmp 36), type := 3, pos := "ref.go:97", after := #[{ on := 14, ground := Ground.data }, { on := 13, ground := Ground.guard }], guard := some (13, true) }) (v := ?vc15) rfl (by kernel_rfl) (by kernel_rfl) (by kernel_rfl) (fun _ _ _ h => h) (Or.inl ⟨by rfl, ?hyc15⟩) (by assumption) ?restc15
      case hyc15 => (intro w hSw; (try dsimp only at hSw); go_simp; (try with_reducible rfl))
      try simp only [Act.put, List.setIfInBounds_toArray, List.set_cons_zero, List.set_cons_succ]
      refine wpAnyH_take (i := 16) (oi := { dst := some 38, op := Op.binOp BinOp.eql 3 (Operand.tmp 37) (Operand.const (Value.int IntKind.i64 0)) 3, type := 4, pos := "ref.go:97", after := #[{ on := 15, ground := Ground.data }, { on := 13, ground := Ground.guard }], guard := some (13, true) }) (v := ?vc16) rfl (by kernel_rfl) (by kernel_rfl) (by kernel_rfl) (fun _ _ _ h => h) (Or.inl ⟨by rfl, ?hyc16⟩) (by assumption) ?restc16
      case hyc16 => (intro w hSw; (try dsimp only at hSw); go_simp; (try with_reducible rfl))
      try simp only [Act.put, List.setIfInBounds_toArray, List.set_cons_zero, List.set_cons_succ]
      refine wpAnyH_take (i := 17) (oi := { dst := some 39, op := Op.pick (Operand.tmp 35) (Operand.tmp 38) (Operand.const (Value.bool false)), type := 4, pos := "ref.go:97", after := #[{ on := 13, ground := Ground.data }, { on := 16, ground := Ground.data }], guard := none }) (v := ?vc17) rfl (by kernel_rfl) (by kernel_rfl) (by kernel_rfl) (fun _ _ _ h => h) (Or.inl ⟨by rfl, ?hyc17⟩) (by assumption) ?restc17
      case hyc17 => (intro w hSw; (try dsimp only at hSw); go_simp; (try with_reducible rfl))
      try simp only [Act.put, List.setIfInBounds_toArray, List.set_cons_zero, List.set_cons_succ]
      refine wpAnyH_take (i := 18) (oi := { dst := some 40, op := Op.move (Operand.tmp 39), type := 4, pos := "ref.go:97", after := #[{ on := 17, ground := Ground.data }, { on := 13, ground := Ground.chain }], guard := none }) (v := ?vc18) rfl (by kernel_rfl) (by kernel_rfl) (by kernel_rfl) (fun _ _ _ h => h) (Or.inl ⟨by rfl, ?hyc18⟩) (by assumption) ?restc18
      case hyc18 => (intro w hSw; (try dsimp only at hSw); go_simp; (try with_reducible rfl))
      try simp only [Act.put, List.setIfInBounds_toArray, List.set_cons_zero, List.set_cons_succ]
      refine wpAnyH_take (i := 19) (oi := { dst := some 41, op := Op.fieldAddr 50 (Operand.tmp 1) 3, type := 0, pos := "ref.go:97", after := #[{ on := 18, ground := Ground.guard }, { on := 23, ground := Ground.gcOnly Departure.lateStores }], guard := some (18, true) }) rfl (by kernel_rfl) (by kernel_rfl) (by kernel_rfl) (fun _ _ _ h => h) (Or.inr ⟨by rfl, rfl⟩) (by assumption) ?_
      try simp only [Act.put, List.setIfInBounds_toArray, List.set_cons_zero, List.set_cons_succ]
      refine wpAnyH_take (i := 20) (oi := { dst := some 42, op := Op.load 3 (Operand.tmp 41), type := 3, pos := "ref.go:97", after := #[{ on := 19, ground := Ground.data }, { on := 18, ground := Ground.guard }, { on := 23, ground := Ground.gcOnly Departure.lateStores }], guard := some (18, true) }) rfl (by kernel_rfl) (by kernel_rfl) (by kernel_rfl) (fun _ _ _ h => h) (Or.inr ⟨by rfl, rfl⟩) (by assumption) ?_
      try simp only [Act.put, List.setIfInBounds_toArray, List.set_cons_zero, List.set_cons_succ]
      refine wpAnyH_take (i := 21) (oi := { dst := some 43, op := Op.binOp BinOp.eql 3 (Operand.tmp 42) (Operand.const (Value.int IntKind.i64 0)) 3, type := 4, pos := "ref.go:97", after := #[{ on := 20, ground := Ground.data }, { on := 18, ground := Ground.guard }, { on := 23, ground := Ground.gcOnly Departure.lateStores }], guard := some (18, true) }) rfl (by kernel_rfl) (by kernel_rfl) (by kernel_rfl) (fun _ _ _ h => h) (Or.inr ⟨by rfl, rfl⟩) (by assumption) ?_
      try simp only [Act.put, List.setIfInBounds_toArray, List.set_cons_zero, List.set_cons_succ]
      refine wpAnyH_take (i := 22) (oi := { dst := some 44, op := Op.pick (Operand.tmp 40) (Operand.tmp 43) (Operand.const (Value.bool false)), type := 4, pos := "ref.go:97", after := #[{ on := 18, ground := Ground.data }, { on := 21, ground := Ground.data }, { on := 23, ground := Ground.gcOnly Departure.lateStores }], guard := none }) (v := ?vc22) rfl (by kernel_rfl) (by kernel_rfl) (by kernel_rfl) (fun _ _ _ h => h) (Or.inl ⟨by rfl, ?hyc22⟩) (by assumption) ?restc22
      case hyc22 => (intro w hSw; (try dsimp only at hSw); go_simp; (try with_reducible rfl))
      try simp only [Act.put, List.setIfInBounds_toArray, List.set_cons_zero, List.set_cons_succ]
      refine wpAnyH_take (i := 23) (oi := { dst := some 2, op := Op.assign (Operand.tmp 28), type := 9, pos := "ref.go:97", after := #[{ on := 6, ground := Ground.data }, { on := 18, ground := Ground.chain }, { on := 0, ground := Ground.phase }, { on := 1, ground := Ground.phase }, { on := 2, ground := Ground.phase }, { on := 3, ground := Ground.phase }, { on := 4, ground := Ground.phase }, { on := 5, ground := Ground.phase }, { on := 6, ground := Ground.phase }, { on := 7, ground := Ground.textOnly Departure.lateStores }, { on := 8, ground := Ground.textOnly Departure.lateStores }, { on := 9, ground := Ground.textOnly Departure.lateStores }, { on := 10, ground := Ground.textOnly Departure.lateStores }, { on := 11, ground := Ground.textOnly Departure.lateStores }, { on := 12, ground := Ground.textOnly Departure.lateStores }, { on := 13, ground := Ground.textOnly Departure.lateStores }, { on := 14, ground := Ground.textOnly Departure.lateStores }, { on := 15, ground := Ground.textOnly Departure.lateStores }, { on := 16, ground := Ground.textOnly Departure.lateStores }, { on := 17, ground := Ground.textOnly Departure.lateStores }, { on := 18, ground := Ground.textOnly Departure.lateStores }, { on := 19, ground := Ground.textOnly Departure.lateStores }, { on := 20, ground := Ground.textOnly Departure.lateStores }, { on := 21, ground := Ground.textOnly Departure.lateStores }, { on := 22, ground := Ground.textOnly Departure.lateStores }], guard := none }) (v := ?vc23) rfl (by kernel_rfl) (by kernel_rfl) (by kernel_rfl) (fun _ _ _ h => h) (Or.inl ⟨by rfl, ?hyc23⟩) (by assumption) ?restc23
      case hyc23 => (intro w hSw; (try dsimp only at hSw); go_simp; (try with_reducible rfl))
      try simp only [Act.put, List.setIfInBounds_toArray, List.set_cons_zero, List.set_cons_succ]
      refine wpAnyH_take (i := 24) (oi := { dst := some 3, op := Op.assign (Operand.tmp 44), type := 4, pos := "ref.go:97", after := #[{ on := 22, ground := Ground.data }, { on := 23, ground := Ground.chain }, { on := 0, ground := Ground.phase }, { on := 1, ground := Ground.phase }, { on := 2, ground := Ground.phase }, { on := 3, ground := Ground.phase }, { on := 4, ground := Ground.phase }, { on := 5, ground := Ground.phase }, { on := 6, ground := Ground.phase }, { on := 7, ground := Ground.phase }, { on := 8, ground := Ground.phase }, { on := 9, ground := Ground.phase }, { on := 10, ground := Ground.phase }, { on := 11, ground := Ground.phase }, { on := 12, ground := Ground.phase }, { on := 13, ground := Ground.phase }, { on := 14, ground := Ground.phase }, { on := 15, ground := Ground.phase }, { on := 16, ground := Ground.phase }, { on := 17, ground := Ground.phase }, { on := 18, ground := Ground.phase }, { on := 19, ground := Ground.phase }, { on := 20, ground := Ground.phase }, { on := 21, ground := Ground.phase }, { on := 22, ground := Ground.phase }, { on := 23, ground := Ground.phase }], guard := none }) (v := ?vc24) rfl (by kernel_rfl) (by kernel_rfl) (by kernel_rfl) (fun _ _ _ h => h) (Or.inl ⟨by rfl, ?hyc24⟩) (by assumption) ?restc24
      case hyc24 => (intro w hSw; (try dsimp only at hSw); go_simp; (try with_reducible rfl))
      try simp only [Act.put, List.setIfInBounds_toArray, List.set_cons_zero, List.set_cons_succ]
      refine wpAnyH_done (by kernel_rfl) ?_ _
      have B5 := Lib.hid (B3.out.trans (hHeld1.1.mono B3.out.size))
      clear hHeld1
      go_wp2_with fail
      go_ret2
      exact ⟨({ data := #[97, 115, 107, 32] } : ByteArray) ++ Q ++ s, rfl, (by intro h; cases h), B5.out⟩
    subst hpl
    by_cases hex : ex = 0
    case neg =>
      have g1 : (ex == 0) = false := by simpa using hex
      have g2 : decide (ex = 0) = false := decide_eq_false hex
      obtain rfl : zz = false := F3.out hex
      clear F0 F1 F2 F3 F4
      clear hex
      go_upto_region 3 with fail
      go_region_held3 (fun w' => Below w3.heap.size w3 w' ∧ w'.cell? ⟨w.heap.size, 1, none⟩ = some (.int .i64 0) ∧ w'.cell? ⟨w.heap.size, 2, none⟩ = some (.int .i64 0) ∧ w'.cell? ⟨w.heap.size, 3, none⟩ = some (.int .i64 ex) ∧ w'.cell? ⟨w.heap.size, 4, none⟩ = some (.string t))
        (first | assumption | exact evs_carry S3.out (Below.refl _ _).drew | exact evs_carry (by assumption) (by assumption))
        (first | (go_at_call 12; refine (CQ.out _).mono ?_; rintro e w' ⟨rfl, hbq⟩))
      rename_i T5
      have B5 := Lib.hid (B3.out.trans (T5.1.mono B3.out.size))
      clear T5
      go_wp2_with fail
      go_ret2
      exact ⟨({ data := #[97, 115, 107, 32] } : ByteArray) ++ Q ++ s, rfl, (by intro h; cases h), B5.out⟩
    subst hex
    obtain rfl : zz = true := F4.out rfl rfl rfl rfl
    clear F0 F1 F2 F3 F4
    go_upto_region 3 with fail
    go_region_held3 (fun w' => Below w3.heap.size w3 w' ∧ w'.cell? ⟨w.heap.size, 1, none⟩ = some (.int .i64 0) ∧ w'.cell? ⟨w.heap.size, 2, none⟩ = some (.int .i64 0) ∧ w'.cell? ⟨w.heap.size, 3, none⟩ = some (.int .i64 0) ∧ w'.cell? ⟨w.heap.size, 4, none⟩ = some (.string t))
      (first | assumption | exact evs_carry S3.out (Below.refl _ _).drew | exact evs_carry (by assumption) (by assumption))
      (first | (go_at_call 12; refine (CQ.out _).mono ?_; rintro e w' ⟨rfl, hbq⟩))
    rename_i T5
    have B5 := Lib.hid (B3.out.trans (T5.1.mono B3.out.size))
    clear T5
    go_wp2_with fail
    go_ret2
    exact ⟨({ data := #[97, 115, 107, 32] } : ByteArray) ++ Q ++ s, rfl, (by intro _; exact AL.out s (HS.out (by trivial))), B5.out⟩
set_option maxRecDepth 100000 in
set_option maxHeartbeats 3200000 in
theorem revent_ev (x : EvP) (w : World) (hk : x.kd ≠ 1) : Calls Tryd.prog 34 #[.agg #[.int .i64 x.kd, .int .i64 x.nd, .int .i64 x.pl, .int .i64 x.x, .string x.text, .int .i64 x.k, .int .i64 x.n]] w (EvLP w (mayEv x) (lineB (evQ x))) := by
  have hev : evQ x = evB :: (nosEv x).map decI := by unfold evQ; rw [if_neg hk]
  have hmay : mayEv x = (decide (x.text = ⟨#[]⟩ ∧ x.k = 0 ∧ x.n = 0) && numsQ (nosEv x)) := by unfold mayEv; rw [if_neg hk]
  rw [hev, hmay]
  obtain ⟨kd, nd, pl, ex, t, k, n⟩ := x
  have hk : kd ≠ 1 := hk
  show Calls Tryd.prog 34 #[.agg #[.int .i64 kd, .int .i64 nd, .int .i64 pl, .int .i64 ex, .string t, .int .i64 k, .int .i64 n]] w (EvLP w (decide (t = ⟨#[]⟩ ∧ k = 0 ∧ n = 0) && numsQ [kd, nd, pl, ex]) (lineB (evB :: [kd, nd, pl, ex].map decI)))
  clear hev hmay
  have d1 : (kd == 1) = false := by simpa using hk
  have d2 : decide (kd = 1) = false := decide_eq_false hk
  obtain ⟨W, hW⟩ : ∃ W, w.alloc (.cells #[.int .i64 kd, .int .i64 nd, .int .i64 pl, .int .i64 ex, .string t, .int .i64 k, .int .i64 n] 50) = W := ⟨_, rfl⟩
  have hWs : W.heap.size = w.heap.size + 1 := by rw [← hW]; simp
  have HH := holdsI_lit29 W [kd, nd, pl, ex] 3 (0, 0)
  have CN := Lib.hid (rnums_any (some ⟨W.heap.size, 0, none⟩) 4 4 [kd, nd, pl, ex] _ HH (by omega))
  have B1 := Lib.hid (show Below w.heap.size w W from by rw [← hW]; exact below_one w _)
  have B2 := Lib.hid (B1.out.trans ((below_one W (.cells ([kd, nd, pl, ex].map (Value.int .i64)).toArray 3)).mono B1.out.size))
  have K2 := Lib.hid (show (W.alloc (.cells ([kd, nd, pl, ex].map (Value.int .i64)).toArray 3)).heap[w.heap.size]? = some (.cells #[.int .i64 kd, .int .i64 nd, .int .i64 pl, .int .i64 ex, .string t, .int .i64 k, .int .i64 n] 50 (0, 0)) from by
    rw [(below_one W (.cells ([kd, nd, pl, ex].map (Value.int .i64)).toArray 3)).block w.heap.size (by omega), ← hW]; exact heap_alloc_new w _)
  obtain ⟨z, hz⟩ : ∃ z, numsQ [kd, nd, pl, ex] = z := ⟨_, rfl⟩
  unfold RNumsP at CN
  rw [hz] at CN
  have HW := Lib.hid hW
  rw [hz]
  clear HH hz hW hk
  rw [hWs] at CN
  obtain ⟨b1, hb1⟩ : ∃ y, (t.toList == []) = y := ⟨_, rfl⟩
  obtain ⟨b2, hb2⟩ : ∃ y, (k == 0) = y := ⟨_, rfl⟩
  obtain ⟨b3, hb3⟩ : ∃ y, (n == 0) = y := ⟨_, rfl⟩
  have hy : decide (t = ⟨#[]⟩ ∧ k = 0 ∧ n = 0) = (b1 && (b2 && b3)) := by
    rw [Bool.eq_iff_iff, decide_eq_true_eq, ← hb1, ← hb2, ← hb3]
    simp only [Bool.and_eq_true, beq_iff_eq]
    have e0 : (⟨#[]⟩ : ByteArray).toList = [] := by show ByteArray.empty.toList = []; simp
    constructor
    · rintro ⟨h1, h2, h3⟩; exact ⟨by rw [h1, e0], h2, h3⟩
    · rintro ⟨h1, h2, h3⟩; exact ⟨toList_inj (h1.trans e0.symm), h2, h3⟩
  rw [hy]
  clear hy
  obtain ⟨zz, hzz⟩ : ∃ y, (b1 && (b2 && b3) && z) = y := ⟨_, rfl⟩
  rw [hzz]
  have FZ := Lib.hid hzz
  obtain ⟨LL, hLL⟩ : ∃ L, lineB (evB :: [kd, nd, pl, ex].map decI) = L := ⟨_, rfl⟩
  rw [hLL]
  have HLL := Lib.hid hLL
  clear hzz hLL
  have y2 : decide (k = 0) = b2 := by rw [← hb2]; rfl
  have y3 : decide (n = 0) = b3 := by rw [← hb3]; rfl
  go_enter Tryd.func34, Tryd.ntmps34
  go_wp2_with fail
  rw [HW.out]
  refine CN.out.mono ?_
  rintro e w3 ⟨s, rfl, hs, hsz, hb3'⟩
  have B3 := Lib.hid (B2.out.trans (hb3'.mono B2.out.size))
  have K3 := Lib.hid (show w3.heap[w.heap.size]? = some (.cells #[.int .i64 kd, .int .i64 nd, .int .i64 pl, .int .i64 ex, .string t, .int .i64 k, .int .i64 n] 50 (0, 0)) from (hb3'.block _ (lt_of_heap29 K2.out)).trans K2.out)
  have e4 : w3.cell? ⟨w.heap.size, 4, none⟩ = some (.string t) := by rw [Lib.cell_of_heap K3.out]; rfl
  have e5 : w3.cell? ⟨w.heap.size, 5, none⟩ = some (.int .i64 k) := by rw [Lib.cell_of_heap K3.out]; rfl
  have e6 : w3.cell? ⟨w.heap.size, 6, none⟩ = some (.int .i64 n) := by rw [Lib.cell_of_heap K3.out]; rfl
  have HS := Lib.hid (show z = true → (({ data := #[101, 118] } : ByteArray) ++ s).data.toList = LL from fun h => (ev_line s _ (hs h)).trans HLL.out)
  clear hb3' hs K2 K3
  cases z with
  | false =>
    obtain rfl : zz = false := by rw [← FZ.out, Bool.and_false]
    go_upto_region 5 with fail
    go_quiet (fail)
    all_goals
      go_wp2_with fail
      go_ret2
      exact ⟨({ data := #[101, 118] } : ByteArray) ++ s, rfl, (by intro h; cases h), by first | exact B3.out | exact B3.out.trans ((below_drewN _ _).mono B3.out.size)⟩
  | true =>
    cases b1 <;> cases b2 <;> cases b3
    all_goals
      first
        | obtain rfl : zz = false := FZ.out.symm
        | obtain rfl : zz = true := FZ.out.symm
      go_upto_region 5 with fail
      go_quiet (fail)
    all_goals
      go_wp2_with fail
      go_ret2
      exact ⟨({ data := #[101, 118] } : ByteArray) ++ s, rfl, (by intro h; first | exact HS.out (by trivial) | cases h), by first | exact B3.out | exact B3.out.trans ((below_drewN _ _).mono B3.out.size)⟩
theorem revent_any (x : EvP) (w : World) (hx : x.text.size ≤ 1048576) : Calls Tryd.prog 34 #[.agg #[.int .i64 x.kd, .int .i64 x.nd, .int .i64 x.pl, .int .i64 x.x, .string x.text, .int .i64 x.k, .int .i64 x.n]] w (EvLP w (mayEv x) (lineB (evQ x))) := by
  by_cases h : x.kd = 1
  · exact revent_ask x w h hx
  · exact revent_ev x w h
end Go.Proofs.YtmddnklafplikaaDoor
namespace Go.Proofs.YtmddnklafplikaaDoor
open Go.ChangeShapes Go.WideShapes Go.ChangeAt Go.RowKit
set_option linter.unusedVariables false
set_option maxRecDepth 20000
theorem wpList_append_str29 {P : Program} {w : World} {ops : Array Oper} {rest : List Oper} {o : Oper} {a : Act} {Q : Exit → Act → World → Prop} (hgd : o.guard = none) (s x : Operand) (t u : TypeId)
    (ho : o.op = .call { callee := .builtin .append, args := #[s, x], argTypes := #[t, u] })
    (base : Nat) (e : TypeId) (i : TypeInfo) (ht : P.underlying t = some (.slice e)) (hu : P.underlying u = some .string) (hi : P.info? e = some i) (hz : i.zero = some (.int .u8 0)) (hsize : i.size = 1) (hby : i.bytes = 1)
    (v : Value) (n : Nat) (l : List UInt8) (hs : a.eval s = v) (hown : w.ownsRow base e 1 v n (Lib.byteCells l))
    (str : ByteArray) (hx : a.eval x = .string str)
    (h63 : n + str.size ≤ maxLen) (hbytes : n + str.size ≤ 140737488355328) (hbase : base ≤ w.heap.size)
    (h : ∀ a' c' w', w'.ownsRow base e 1 (.slice a' (n + str.size) c') (n + str.size) (Lib.byteCells (l ++ str.data.toList)) → Below base w w' → wpList P ops Q rest (a.put o.dst (.slice a' (n + str.size) c')) w') : wpList P ops Q (o :: rest) a w := by
  refine Lib.wpList_append_own_string w hgd s x t u ho base e i ht hu hi hz hsize hby v n (Lib.byteCells l) hs hown str hx h63 hbytes hbase fun v' w' h2 h3 _ => ?_
  have hb' : Below base w w' := (Below.refl base w).grown h3 hbase fun k hk => (hown.lt k hk).1
  rw [Lib.strCells_eq, ← Lib.byteCells_append] at h2
  rcases Joins.ownsRow_forms h2 with ⟨rfl, h0⟩ | ⟨g, cap, rfl⟩
  · have := h none 0 w' (by rw [h0] at h2 ⊢; exact h2) hb'
    rw [h0] at this
    exact this
  · exact h _ _ w' h2 hb'
theorem word_line (t : ByteArray) : (({ data := #[119, 111, 114, 100, 32] } : ByteArray) ++ quoS t ++ ({ data := #[10] } : ByteArray)).data.toList = endB (wordQ t) := by
  unfold endB wordQ
  rw [lineB_tail]
  simp only [ByteArray.data_append, Array.toList_append, quoS_data]
  simp [wordB, tailB]
theorem cut_line (s t : ByteArray) (x : Int) (h : s.data.toList = numsB [x]) : (({ data := #[99, 117, 116] } : ByteArray) ++ s ++ ({ data := #[32] } : ByteArray) ++ quoS t ++ ({ data := #[10] } : ByteArray)).data.toList = endB (cutQ (x, t)) := by
  unfold endB cutQ
  rw [lineB_tail]
  simp only [ByteArray.data_append, Array.toList_append, quoS_data, h]
  simp [cutB, tailB, numsB]
theorem set_line (s : ByteArray) (zs : List Int) (h : s.data.toList = numsB zs) : (({ data := #[115, 101, 116] } : ByteArray) ++ s ++ ({ data := #[10] } : ByteArray)).data.toList = endB (setQ zs) := by
  unfold endB setQ
  rw [lineB_tail]
  simp only [ByteArray.data_append, Array.toList_append, h]
  simp [setB, numsB]
theorem evt_line (s : ByteArray) (x : EvP) (h : s.data.toList = lineB (evQ x)) : (s ++ ({ data := #[10] } : ByteArray)).data.toList = endB (evQ x) := by
  unfold endB
  simp only [ByteArray.data_append, Array.toList_append, h]
theorem size_of_list (s : ByteArray) : s.size = s.data.toList.length := Array.length_toList.symm
theorem evline_len (x : EvP) (hm : mayEv x = true) (ht : x.text.size ≤ 100) : (lineB (evQ x)).length ≤ 1000 := by
  have h4 := lineB_len (evQ x)
  have h5 := quoL_len x.text ht
  unfold mayEv at hm
  unfold evQ at h4 ⊢
  split
  · rename_i hk
    rw [if_pos hk] at hm h4
    simp only [Bool.and_eq_true] at hm
    have := decI_len hm.2.1
    have := decI_len hm.2.2
    simp only [askB, List.map_cons, List.map_nil, List.sum_cons, List.sum_nil, List.length_cons, List.length_nil] at *
    omega
  · rename_i hk
    rw [if_neg hk] at hm h4
    simp only [Bool.and_eq_true] at hm
    have h7 := nums_len hm.2
    have h8 : (nosEv x).length = 4 := rfl
    simp only [evB, List.map_cons, List.sum_cons, List.length_cons, List.length_nil] at *
    omega
theorem own_to {w : World} {B m k : Nat} {a : Option Addr} {c : Nat} {l l' : List UInt8} (h : w.ownsRow B 5 1 (.slice a m c) m (Lib.byteCells l)) (hm : m = k) (hl : l = l') : w.ownsRow B 5 1 (.slice a k c) k (Lib.byteCells l') := by
  subst hm; subst hl; exact h
theorem printF_no {st : PS} (h : mayPr st = false) : printF st = ([], 2) := by unfold printF; rw [if_pos h]
theorem printF_yes {st : PS} (h : mayPr st = true) : printF st = if 65536 < (printB st).length then ([], 3) else (printB st, 0) := by unfold printF; rw [if_neg (by rw [h]; decide)]
set_option maxRecDepth 100000 in
set_option maxHeartbeats 6400000 in
theorem rprint_any (wa ka ea : Option Addr) (nw nk ne wc kc ec : Nat) (a0 a1 a2 a3 a4 a5 a6 a7 a8 a9 : Int) (ws : List Tx) (ks : List KV) (es : List EvP) (w : World)
    (hw : HoldsT w wa nw ws) (hk : HoldsK w ka nk ks) (he : HoldsEv w ea ne es) (hnw : nw ≤ 80) (hnk : nk ≤ 10) (hne : ne ≤ 300)
    (hws : ∀ t ∈ ws, t.size ≤ 100) (hks : ∀ k ∈ ks, k.2.size ≤ 100) (hes : ∀ x ∈ es, x.text.size ≤ 100) :
    Calls Tryd.prog 16 #[.agg #[.slice wa nw wc, .slice ka nk kc, .int .i64 a0, .int .i64 a1, .int .i64 a2, .int .i64 a3, .int .i64 a4, .int .i64 a5, .int .i64 a6, .int .i64 a7, .int .i64 a8, .int .i64 a9], .slice ea ne ec] w (PrintP w (printF ⟨ws, ks, [a0, a1, a2, a3, a4, a5, a6, a7, a8, a9], es⟩)) := by
  obtain ⟨i0, hii, hz0, hz1, hz2⟩ := info_parts byte_info
  have hwl := hw.len
  have hkl := hk.1
  have hel := he.1
  obtain ⟨w1, hw1⟩ : ∃ w1, w.alloc (.cells #[.slice wa nw wc, .slice ka nk kc, .int .i64 a0, .int .i64 a1, .int .i64 a2, .int .i64 a3, .int .i64 a4, .int .i64 a5, .int .i64 a6, .int .i64 a7, .int .i64 a8, .int .i64 a9] 30) = w1 := ⟨_, rfl⟩
  obtain ⟨q, hq⟩ : ∃ q, w.heap.size = q := ⟨_, rfl⟩
  have B1 := Lib.hid (show Below w.heap.size w w1 from by rw [← hw1]; exact below_one w _)
  have CB := Lib.hid (show w1.heap[q]? = some (.cells #[.slice wa nw wc, .slice ka nk kc, .int .i64 a0, .int .i64 a1, .int .i64 a2, .int .i64 a3, .int .i64 a4, .int .i64 a5, .int .i64 a6, .int .i64 a7, .int .i64 a8, .int .i64 a9] 30 (0, 0)) from by rw [← hq, ← hw1]; exact heap_alloc_new w _)
  have HW := Lib.hid (fun (w' : World) (hb : Below w1.heap.size w1 w') => hw.below (B1.out.trans (hb.mono B1.out.size)))
  have HK := Lib.hid (fun (w' : World) (hb : Below w1.heap.size w1 w') => hk.below (B1.out.trans (hb.mono B1.out.size)))
  have HE := Lib.hid (fun (w' : World) (hb : Below w1.heap.size w1 w') => he.below (B1.out.trans (hb.mono B1.out.size)))
  have KB := Lib.hid (fun (w' : World) (hb : Below w1.heap.size w1 w') => (show w'.heap[q]? = some (.cells #[.slice wa nw wc, .slice ka nk kc, .int .i64 a0, .int .i64 a1, .int .i64 a2, .int .i64 a3, .int .i64 a4, .int .i64 a5, .int .i64 a6, .int .i64 a7, .int .i64 a8, .int .i64 a9] 30 (0, 0)) from (hb.block _ (lt_of_heap29 CB.out)).trans CB.out))
  have HWS := Lib.hid hws; have HKS := Lib.hid hks; have HES := Lib.hid hes
  have HW1 := Lib.hid hw1; have HQ := Lib.hid hq
  have BE := Lib.hid (fun (w' : World) (hb : Below w1.heap.size w1 w') => B1.out.trans (hb.mono B1.out.size))
  have FN := Lib.hid (fun (w' : World) (hb : Below w1.heap.size w1 w') (h : mayPr ⟨ws, ks, [a0, a1, a2, a3, a4, a5, a6, a7, a8, a9], es⟩ = false) => (show PrintP w (printF ⟨ws, ks, [a0, a1, a2, a3, a4, a5, a6, a7, a8, a9], es⟩) (.returned (.tuple #[.string ByteArray.empty, .int .i64 2])) w' from by rw [printF_no h]; exact ⟨rfl, BE.out w' hb⟩))
  have PF := Lib.hid (printF_yes (st := ⟨ws, ks, [a0, a1, a2, a3, a4, a5, a6, a7, a8, a9], es⟩))
  have PB := Lib.hid (printB_parts ws ks [a0, a1, a2, a3, a4, a5, a6, a7, a8, a9] es)
  obtain ⟨R, hR⟩ : ∃ R, printF ⟨ws, ks, [a0, a1, a2, a3, a4, a5, a6, a7, a8, a9], es⟩ = R := ⟨_, rfl⟩
  rw [hR] at FN PF
  rw [hR]
  clear hw hk he hws hks hes hw1 hq hR
  go_enter Tryd.func16, Tryd.ntmps16
  go_upto_region 2 with fail
  rw [HW1.out, HQ.out]
  go_wp2_with fail
  go_loopw [6, 7] (fun bv iv wr => ∃ (j m : Nat) (av : Option Addr) (cv : Nat), j ≤ nw ∧ iv = .int .i64 j ∧ bv = .slice av m cv ∧ m ≤ j * 1000 ∧ Hid (wr.ownsRow w1.heap.size 5 1 (.slice av m cv) m (Lib.byteCells (wordsB (ws.take j)))) ∧ Hid (Below w1.heap.size w1 wr)) (fun _ iv _ => nw - (intOf iv).toNat)
  case atStart => exact ⟨0, 0, none, 0, by omega, rfl, rfl, by omega, Lib.hid ⟨rfl, Or.inl ⟨rfl, rfl⟩⟩, Lib.hid (Below.refl _ _)⟩
  case round =>
    obtain ⟨j, m, av, cv, hj, rfl, rfl, hmj, hO, hB⟩ := hrel
    have KR := Lib.hid (KB.out wr hB.out)
    have c0 : wr.cell? ⟨q, 0, none⟩ = some (.slice wa nw wc) := by rw [Lib.cell_of_heap KR.out]; rfl
    by_cases hlt : j < nw
    · obtain ⟨bb, o, rfl, hc⟩ := (HW.out wr hB.out).at (by omega)
      have hx := hc j hlt
      obtain ⟨t, ht⟩ : ∃ t, ws.getD j ByteArray.empty = t := ⟨_, rfl⟩
      rw [ht] at hx
      have htm : t.size ≤ 100 := HWS.out t (by rw [← ht, List.getD_eq_getElem?_getD, List.getElem?_eq_getElem (by omega)]; exact List.getElem_mem _)
      have hs1 : wordsB (ws.take (j + 1)) = wordsB (ws.take j) ++ endB (wordQ t) := by rw [take_getD29 ws ByteArray.empty j (by omega), ht, wordsB_snoc]
      have CQ := Lib.hid (fun w => rquote_any t w (by omega))
      obtain ⟨Q, hQ⟩ : ∃ Q, quoS t = Q := ⟨_, rfl⟩
      have hQz : Q.size ≤ 302 := by
        have h1 := quoL_len t htm
        rw [size_of_list, ← hQ, quoS_data]; exact h1
      have HL := Lib.hid (show (({ data := #[119, 111, 114, 100, 32] } : ByteArray) ++ Q ++ ({ data := #[10] } : ByteArray)).data.toList = endB (wordQ t) from by rw [← hQ]; exact word_line t)
      rw [hQ] at CQ
      have hsz : (({ data := #[119, 111, 114, 100, 32] } : ByteArray) ++ Q ++ ({ data := #[10] } : ByteArray)).size = Q.size + 6 := by (simp only [ByteArray.size_append]; show 5 + Q.size + 1 = Q.size + 6; omega)
      have HS1 := Lib.hid hs1
      have i1 : (0 : Int) ≤ (j : Int) := by omega
      have i2 : (j : Int) < (nw : Int) := by omega
      clear hc ht hQ hs1 htm
      go_wp2_with fail
      refine (CQ.out _).mono ?_
      rintro e w3 ⟨rfl, hb3⟩
      have B3 := Lib.hid (hB.out.trans (hb3.mono hB.out.size))
      have O3 := Lib.hid (owns_below hO.out hb3)
      clear hb3
      go_wp2_with (at_builtin; refine wpList_append_str29 rfl (.tmp 23) (.tmp 31) 52 9 rfl w1.heap.size 5 i0 Tryd.underlying52 Tryd.underlying9 hii hz0 hz1 hz2 _ m _ rfl O3.out (({ data := #[119, 111, 114, 100, 32] } : ByteArray) ++ Q ++ ({ data := #[10] } : ByteArray)) rfl (by rw [hsz]; unfold maxLen; omega) (by rw [hsz]; omega) B3.out.size ?_; intro az cz w4 hown4 hb4)
      rw [hsz] at *
      have O4 := Lib.hid (own_to (k := m + (Q.size + 6)) hown4 rfl (by rw [HL.out, ← HS1.out]))
      have B4 := Lib.hid (B3.out.trans hb4)
      clear hown4 hb4
      obtain ⟨m', hm'⟩ : ∃ m', m + (Q.size + 6) = m' := ⟨_, rfl⟩
      rw [hm'] at O4 ⊢
      have hm9 : m' ≤ (j + 1) * 1000 := by omega
      clear hm' hsz
      go_wp2_with fail
      go_roundw
      case rel => exact ⟨j + 1, m', az, cz, by omega, by go_num, rfl, hm9, O4, B4⟩
      case measure => simp [intOf]; omega
    · obtain rfl : nw = j := by omega
      have O1 := Lib.hid (own_to (l' := wordsB ws ++ cutsB (ks.take 0)) hO.out rfl (by rw [List.take_of_length_le (by omega)]; simp [cutsB]))
      have c1 : wr.cell? ⟨q, 1, none⟩ = some (.slice ka nk kc) := by rw [Lib.cell_of_heap KR.out]; rfl
      clear hO
      go_wp2_with fail
      go_loopw [6, 8] (fun bv iv wx => ∃ (i m : Nat) (av : Option Addr) (cv : Nat), i ≤ nk ∧ iv = .int .i64 i ∧ bv = .slice av m cv ∧ m ≤ 80000 + i * 1000 ∧ Hid (wx.ownsRow w1.heap.size 5 1 (.slice av m cv) m (Lib.byteCells (wordsB ws ++ cutsB (ks.take i)))) ∧ Hid (cutsQ (ks.take i) = true) ∧ Hid (Below w1.heap.size w1 wx)) (fun _ iv _ => nk - (intOf iv).toNat)
      case atStart => exact ⟨0, m, av, cv, by omega, rfl, rfl, by omega, O1, Lib.hid rfl, hB⟩
      case round =>
        clear O1 hB KR c0 c1 hmj
        rename World => wx
        obtain ⟨i, m, av, cv, hi, rfl, rfl, hmi, hO, hCQ, hB⟩ := hrel
        have KR := Lib.hid (KB.out wx hB.out)
        have c1 : wx.cell? ⟨q, 1, none⟩ = some (.slice ka nk kc) := by rw [Lib.cell_of_heap KR.out]; rfl
        by_cases hlt : i < nk
        · obtain ⟨bb, o, rfl, hc⟩ := (HK.out wx hB.out).2 (by omega)
          obtain ⟨x0, x1⟩ := hc i hlt
          have hmem : ks.getD i k0 ∈ ks := by rw [List.getD_eq_getElem?_getD, List.getElem?_eq_getElem (by omega)]; exact List.getElem_mem _
          have htm := HKS.out _ hmem
          have TK := Lib.hid (take_getD29 ks k0 i (by omega))
          obtain ⟨⟨x, t⟩, hkv⟩ : ∃ kv, ks.getD i k0 = kv := ⟨_, rfl⟩
          rw [hkv] at x0 x1 htm TK hmem
          have htm : t.size ≤ 100 := htm
          have CN := Lib.hid (rnums_any (some ⟨wx.heap.size, 0, none⟩) 1 1 [x] _ (holdsI_lit29 wx [x] 3 (0, 0)) (by omega))
          unfold RNumsP at CN
          obtain ⟨z, hz⟩ : ∃ z, numsQ [x] = z := ⟨_, rfl⟩
          have hzx : numQ x = z := by rw [← hz]; simp [numsQ]
          rw [hz] at CN
          have HNO := Lib.hid (show z = false → mayPr ⟨ws, ks, [a0, a1, a2, a3, a4, a5, a6, a7, a8, a9], es⟩ = false from fun h => by
            unfold mayPr
            rw [show ks.all (fun k => numQ k.1) = false from by rw [List.all_eq_false]; exact ⟨_, hmem, by rw [hzx, h]; simp⟩]
            rfl)
          have CQ := Lib.hid (fun w => rquote_any t w (by omega))
          obtain ⟨Q, hQ⟩ : ∃ Q, quoS t = Q := ⟨_, rfl⟩
          have hQz : Q.size ≤ 302 := by
            have h1 := quoL_len t htm
            rw [size_of_list, ← hQ, quoS_data]; exact h1
          have HL := Lib.hid (fun s h => (show (({ data := #[99, 117, 116] } : ByteArray) ++ s ++ ({ data := #[32] } : ByteArray) ++ Q ++ ({ data := #[10] } : ByteArray)).data.toList = endB (cutQ (x, t)) from by rw [← hQ]; exact cut_line s t x h))
          rw [hQ] at CQ
          have HZX := Lib.hid hzx
          have BX := Lib.hid (below_one wx (.cells ([x].map (Value.int .i64)).toArray 3))
          have i1 : (0 : Int) ≤ (i : Int) := by omega
          have i2 : (i : Int) < (nk : Int) := by omega
          clear hc hkv hQ htm hz hzx hmem
          go_wp2_with fail
          refine CN.out.mono ?_
          rintro e w3 ⟨s, rfl, hs, hsb, hb3⟩
          have hb4 := BX.out.trans (hb3.mono BX.out.size)
          have B3 := Lib.hid (hB.out.trans (hb4.mono hB.out.size))
          have O3 := Lib.hid (owns_below hO.out hb4)
          have e1 : w3.cell? ⟨q, 1, none⟩ = some (.slice (some ⟨bb, o, none⟩) nk kc) := by rw [Lib.cell_of_heap (KB.out w3 B3.out)]; rfl
          have hlx := (lt_of_cell x1)
          have e2 : w3.cell? ⟨bb, o + i * 2 + 1, none⟩ = some (.string t) := (hb4.cell (p := ⟨bb, o + i * 2 + 1, none⟩) hlx).trans x1
          have HS := Lib.hid (show z = true → s.data.toList = numsB [x] from hs)
          clear hb3 hb4 hs hlx
          cases z with
          | false =>
            have hno := HNO.out rfl
            go_wp2_with fail
            go_ret2
            exact FN.out _ B3.out hno
          | true =>
            have hsz7 : s.size ≤ 7 := by
              have h1 := numsB_len [x] (by simp [numsQ, HZX.out])
              rw [size_of_list, HS.out rfl]; simpa using h1
            have hsz : (({ data := #[99, 117, 116] } : ByteArray) ++ s ++ ({ data := #[32] } : ByteArray) ++ Q ++ ({ data := #[10] } : ByteArray)).size = s.size + Q.size + 5 := by (simp only [ByteArray.size_append]; show 3 + s.size + 1 + Q.size + 1 = s.size + Q.size + 5; omega)
            have HL2 := Lib.hid (HL.out s (HS.out rfl))
            clear HL HNO hsb
            go_wp2_with fail
            refine (CQ.out _).mono ?_
            rintro e w5 ⟨rfl, hb5⟩
            have B5 := Lib.hid (B3.out.trans (hb5.mono B3.out.size))
            have O5 := Lib.hid (owns_below O3.out hb5)
            clear hb5 e1 e2
            go_wp2_with (at_builtin; refine wpList_append_str29 rfl (.tmp 53) (.tmp 65) 52 9 rfl w1.heap.size 5 i0 Tryd.underlying52 Tryd.underlying9 hii hz0 hz1 hz2 _ m _ rfl O5.out (({ data := #[99, 117, 116] } : ByteArray) ++ s ++ ({ data := #[32] } : ByteArray) ++ Q ++ ({ data := #[10] } : ByteArray)) rfl (by rw [hsz]; unfold maxLen; omega) (by rw [hsz]; omega) B5.out.size ?_; intro az cz w4 hown4 hb4)
            rw [hsz] at *
            have O4 := Lib.hid (own_to (k := m + (s.size + Q.size + 5)) (l' := wordsB ws ++ cutsB (ks.take (i + 1))) hown4 rfl (by rw [HL2.out, TK.out, cutsB_snoc, List.append_assoc]))
            have B4 := Lib.hid (B5.out.trans hb4)
            have Q4 := Lib.hid (show cutsQ (ks.take (i + 1)) = true from by
              have h := hCQ.out
              unfold cutsQ at h ⊢
              rw [TK.out, List.all_append, Bool.and_eq_true]
              exact ⟨h, by simp [HZX.out]⟩)
            clear hown4 hb4
            obtain ⟨m', hm'⟩ : ∃ m', m + (s.size + Q.size + 5) = m' := ⟨_, rfl⟩
            rw [hm'] at O4 ⊢
            have hm9 : m' ≤ 80000 + (i + 1) * 1000 := by omega
            clear hm' hsz
            go_wp2_with fail
            go_roundw
            case rel => exact ⟨i + 1, m', az, cz, by omega, by go_num, rfl, hm9, O4, Q4, B4⟩
            case measure => simp [intOf]; omega
        · obtain rfl : nk = i := by omega
          have O1 := Lib.hid (own_to (l' := wordsB ws ++ cutsB ks) hO.out rfl (by rw [List.take_of_length_le (by omega)]))
          have hcq := hCQ.out
          rw [List.take_of_length_le (by omega)] at hcq
          have HCQ := Lib.hid hcq
          have f0 : wx.cell? ⟨q, 0, none⟩ = some (.slice wa nw wc) := by rw [Lib.cell_of_heap KR.out]; rfl
          have f1 : wx.cell? ⟨q, 1, none⟩ = some (.slice ka nk kc) := by rw [Lib.cell_of_heap KR.out]; rfl
          have f2 : wx.cell? ⟨q, 2, none⟩ = some (.int .i64 a0) := by rw [Lib.cell_of_heap KR.out]; rfl
          have f3 : wx.cell? ⟨q, 3, none⟩ = some (.int .i64 a1) := by rw [Lib.cell_of_heap KR.out]; rfl
          have f4 : wx.cell? ⟨q, 4, none⟩ = some (.int .i64 a2) := by rw [Lib.cell_of_heap KR.out]; rfl
          have f5 : wx.cell? ⟨q, 5, none⟩ = some (.int .i64 a3) := by rw [Lib.cell_of_heap KR.out]; rfl
          have f6 : wx.cell? ⟨q, 6, none⟩ = some (.int .i64 a4) := by rw [Lib.cell_of_heap KR.out]; rfl
          have f7 : wx.cell? ⟨q, 7, none⟩ = some (.int .i64 a5) := by rw [Lib.cell_of_heap KR.out]; rfl
          have f8 : wx.cell? ⟨q, 8, none⟩ = some (.int .i64 a6) := by rw [Lib.cell_of_heap KR.out]; rfl
          have f9 : wx.cell? ⟨q, 9, none⟩ = some (.int .i64 a7) := by rw [Lib.cell_of_heap KR.out]; rfl
          have f10 : wx.cell? ⟨q, 10, none⟩ = some (.int .i64 a8) := by rw [Lib.cell_of_heap KR.out]; rfl
          have f11 : wx.cell? ⟨q, 11, none⟩ = some (.int .i64 a9) := by rw [Lib.cell_of_heap KR.out]; rfl
          have CS := Lib.hid (fun w => rset_any wa ka nw nk wc kc a0 a1 a2 a3 a4 a5 a6 a7 a8 a9 w)
          obtain ⟨z, hz⟩ : ∃ z, numsQ [a0, a1, a2, a3, a4, a5, a6, a7, a8, a9] = z := ⟨_, rfl⟩
          have CN := Lib.hid (fun p (w' : World) h => rnums_any (some ⟨p, 0, none⟩) 10 10 [a0, a1, a2, a3, a4, a5, a6, a7, a8, a9] w' h (by omega))
          unfold RNumsP at CN
          rw [hz] at CN
          have HNO := Lib.hid (show z = false → mayPr ⟨ws, ks, [a0, a1, a2, a3, a4, a5, a6, a7, a8, a9], es⟩ = false from fun h => by
            unfold mayPr
            show (_ && (numsQ [a0, a1, a2, a3, a4, a5, a6, a7, a8, a9] && _)) = false
            rw [hz, h]; simp)
          have HL := Lib.hid (fun s h => set_line s [a0, a1, a2, a3, a4, a5, a6, a7, a8, a9] h)
          have HNL := Lib.hid (fun h => numsB_len [a0, a1, a2, a3, a4, a5, a6, a7, a8, a9] h)
          have HZ := Lib.hid hz
          clear hO hCQ hcq c1 hz
          go_wp2_with fail
          refine (CS.out _).mono ?_
          rintro e w3 ⟨p, rfl, hh, hb3⟩
          have CN2 := Lib.hid (CN.out p w3 hh)
          have B3 := Lib.hid (hB.out.trans (hb3.mono hB.out.size))
          have O3 := Lib.hid (owns_below O1.out hb3)
          clear hh hb3 CN O1 f0 f1 f2 f3 f4 f5 f6 f7 f8 f9 f10 f11
          go_wp2_with fail
          refine CN2.out.mono ?_
          rintro e w4 ⟨s, rfl, hs, hsb, hb4⟩
          have B4 := Lib.hid (B3.out.trans (hb4.mono B3.out.size))
          have O4 := Lib.hid (owns_below O3.out hb4)
          have HS := Lib.hid (show z = true → s.data.toList = numsB [a0, a1, a2, a3, a4, a5, a6, a7, a8, a9] from hs)
          clear hb4 hs CN2
          cases z with
          | false =>
            have hno := HNO.out rfl
            go_wp2_with fail
            go_ret2
            exact FN.out _ B4.out hno
          | true =>
            have hsz7 : s.size ≤ 70 := by
              have h1 := HNL.out HZ.out
              rw [size_of_list, HS.out rfl]; simpa using h1
            have hsz : (({ data := #[115, 101, 116] } : ByteArray) ++ s ++ ({ data := #[10] } : ByteArray)).size = s.size + 4 := by (simp only [ByteArray.size_append]; show 3 + s.size + 1 = s.size + 4; omega)
            have HL2 := Lib.hid (HL.out s (HS.out rfl))
            clear HL HNO hsb
            go_wp2_with (at_builtin; refine wpList_append_str29 rfl (.tmp 75) (.tmp 78) 52 9 rfl w1.heap.size 5 i0 Tryd.underlying52 Tryd.underlying9 hii hz0 hz1 hz2 _ m _ rfl O4.out (({ data := #[115, 101, 116] } : ByteArray) ++ s ++ ({ data := #[10] } : ByteArray)) rfl (by rw [hsz]; unfold maxLen; omega) (by rw [hsz]; omega) B4.out.size ?_; intro az cz w5 hown4 hb4)
            rw [hsz] at *
            have O5 := Lib.hid (own_to (k := m + (s.size + 4)) (l' := wordsB ws ++ (cutsB ks ++ endB (setQ [a0, a1, a2, a3, a4, a5, a6, a7, a8, a9])) ++ evsB (es.take 0)) hown4 rfl (by rw [HL2.out]; simp [evsB]))
            have B5 := Lib.hid (B4.out.trans hb4)
            clear hown4 hb4
            obtain ⟨m', hm'⟩ : ∃ m', m + (s.size + 4) = m' := ⟨_, rfl⟩
            rw [hm'] at O5 ⊢
            have hm9 : m' ≤ 91000 := by omega
            clear hm' hsz hsz7
            go_wp2_with fail
            go_loopw [6, 13] (fun bv iv wy => ∃ (k m : Nat) (av : Option Addr) (cv : Nat), k ≤ ne ∧ iv = .int .i64 k ∧ bv = .slice av m cv ∧ m ≤ 91000 + k * 2000 ∧ Hid (wy.ownsRow w1.heap.size 5 1 (.slice av m cv) m (Lib.byteCells (wordsB ws ++ (cutsB ks ++ endB (setQ [a0, a1, a2, a3, a4, a5, a6, a7, a8, a9])) ++ evsB (es.take k)))) ∧ Hid ((es.take k).all mayEv = true) ∧ Hid (Below w1.heap.size w1 wy)) (fun _ iv _ => ne - (intOf iv).toNat)
            case atStart => exact ⟨0, m', az, cz, by omega, rfl, rfl, by omega, O5, Lib.hid rfl, B5⟩
            case round =>
              clear O5 B5 O4 B4 O3 B3 hB KR hmi hm9
              rename World => wy
              obtain ⟨k, m, av, cv, hk9, rfl, rfl, hmk, hO, hEV, hB⟩ := hrel
              by_cases hlt : k < ne
              · obtain ⟨bb, o, rfl, hc⟩ := (HE.out wy hB.out).2 (by omega)
                have hx7 := hc k hlt
                have hmem : es.getD k ev0 ∈ es := by rw [List.getD_eq_getElem?_getD, List.getElem?_eq_getElem (by omega)]; exact List.getElem_mem _
                obtain ⟨x, hx⟩ : ∃ x, es.getD k ev0 = x := ⟨_, rfl⟩
                have TK := Lib.hid (show es.take (k + 1) = es.take k ++ [x] from by rw [← hx]; exact take_getD29 es ev0 k (by omega))
                rw [hx] at hx7 hmem
                obtain ⟨y0, y1, y2, y3, y4, y5, y6⟩ := hx7
                have htm := HES.out x hmem
                have CE := Lib.hid (fun w => revent_any x w (by omega))
                obtain ⟨z, hz⟩ : ∃ z, mayEv x = z := ⟨_, rfl⟩
                rw [hz] at CE
                unfold EvLP at CE
                have HNO := Lib.hid (show z = false → mayPr ⟨ws, ks, [a0, a1, a2, a3, a4, a5, a6, a7, a8, a9], es⟩ = false from fun h => by
                  unfold mayPr
                  show (_ && (_ && es.all mayEv)) = false
                  rw [show es.all mayEv = false from by rw [List.all_eq_false]; exact ⟨x, hmem, by rw [hz, h]; simp⟩]
                  simp)
                have HLN := Lib.hid (show z = true → (lineB (evQ x)).length ≤ 1000 from fun h => evline_len x (hz.trans h) htm)
                have HL := Lib.hid (fun s h => evt_line s x h)
                have HZ := Lib.hid hz
                have i1 : (0 : Int) ≤ (k : Int) := by omega
                have i2 : (k : Int) < (ne : Int) := by omega
                clear hc hx hz hmem htm
                go_wp2_with fail
                refine (CE.out _).mono ?_
                rintro e w3 ⟨s, rfl, hs, hb3⟩
                have B3 := Lib.hid (hB.out.trans (hb3.mono hB.out.size))
                have O3 := Lib.hid (owns_below hO.out hb3)
                have HS := Lib.hid (show z = true → s.data.toList = lineB (evQ x) from hs)
                clear hb3 hs CE y0 y1 y2 y3 y4 y5 y6
                cases z with
                | false =>
                  have hno := HNO.out rfl
                  go_wp2_with fail
                  go_ret2
                  exact FN.out _ B3.out hno
                | true =>
                  have hsz7 : s.size ≤ 1000 := by rw [size_of_list, HS.out rfl]; exact HLN.out rfl
                  have hsz : (s ++ ({ data := #[10] } : ByteArray)).size = s.size + 1 := by (simp only [ByteArray.size_append]; rfl)
                  have HL2 := Lib.hid (HL.out s (HS.out rfl))
                  clear HL HNO HLN
                  go_wp2_with (at_builtin; refine wpList_append_str29 rfl (.tmp 96) (.tmp 98) 52 9 rfl w1.heap.size 5 i0 Tryd.underlying52 Tryd.underlying9 hii hz0 hz1 hz2 _ m _ rfl O3.out (s ++ ({ data := #[10] } : ByteArray)) rfl (by rw [hsz]; unfold maxLen; omega) (by rw [hsz]; omega) B3.out.size ?_; intro az cz w4 hown4 hb4)
                  rw [hsz] at *
                  have O4 := Lib.hid (own_to (k := m + (s.size + 1)) (l' := wordsB ws ++ (cutsB ks ++ endB (setQ [a0, a1, a2, a3, a4, a5, a6, a7, a8, a9])) ++ evsB (es.take (k + 1))) hown4 rfl (by rw [HL2.out, TK.out, evsB_snoc]; simp only [List.append_assoc]))
                  have B4 := Lib.hid (B3.out.trans hb4)
                  have E4 := Lib.hid (show (es.take (k + 1)).all mayEv = true from by
                    rw [TK.out, List.all_append, Bool.and_eq_true]
                    exact ⟨hEV.out, by simp [HZ.out]⟩)
                  clear hown4 hb4
                  obtain ⟨m', hm'⟩ : ∃ m', m + (s.size + 1) = m' := ⟨_, rfl⟩
                  rw [hm'] at O4 ⊢
                  have hm9 : m' ≤ 91000 + (k + 1) * 2000 := by omega
                  clear hm' hsz hsz7
                  go_wp2_with fail
                  go_roundw
                  case rel => exact ⟨k + 1, m', az, cz, by omega, by go_num, rfl, hm9, O4, E4, B4⟩
                  case measure => simp [intOf]; omega
              · obtain rfl : ne = k := by omega
                have hev := hEV.out
                rw [List.take_of_length_le (by omega)] at hev
                have O1 := Lib.hid (own_to (l' := printB ⟨ws, ks, [a0, a1, a2, a3, a4, a5, a6, a7, a8, a9], es⟩) hO.out rfl (by rw [List.take_of_length_le (by omega)]; exact PB.out.symm))
                have hlen : (printB ⟨ws, ks, [a0, a1, a2, a3, a4, a5, a6, a7, a8, a9], es⟩).length = m := by have h := O1.out.1; simpa [Lib.byteCells] using h
                have hcv := str_own O1.out
                have hmay : mayPr ⟨ws, ks, [a0, a1, a2, a3, a4, a5, a6, a7, a8, a9], es⟩ = true := by
                  unfold mayPr
                  simp only [Bool.and_eq_true]
                  exact ⟨HCQ.out, HZ.out, hev⟩
                have hpf := PF.out hmay
                rw [hlen] at hpf
                have BF := Lib.hid (BE.out _ hB.out)
                clear hev hmay hO hEV
                by_cases hbig : 65536 < m
                · rw [if_pos hbig] at hpf
                  have d1 : decide (65536 < m) = true := decide_eq_true hbig
                  have d2 : decide ((m : Int) > 65536) = true := decide_eq_true (by omega)
                  have PP := Lib.hid (show PrintP w R (.returned (.tuple #[.string ByteArray.empty, .int .i64 3])) wy from by rw [hpf]; exact ⟨rfl, BF.out⟩)
                  clear hpf hlen hcv hbig
                  go_wp2_with fail
                  go_ret2
                  exact PP.out
                · rw [if_neg hbig] at hpf
                  have d1 : decide (65536 < m) = false := decide_eq_false hbig
                  have d2 : decide ((m : Int) > 65536) = false := decide_eq_false (by omega)
                  obtain ⟨u, hu⟩ : ∃ u : ByteArray, (⟨(printB ⟨ws, ks, [a0, a1, a2, a3, a4, a5, a6, a7, a8, a9], es⟩).toArray⟩ : ByteArray) = u := ⟨_, rfl⟩
                  have PP := Lib.hid (show PrintP w R (.returned (.tuple #[.string u, .int .i64 0])) wy from by rw [hpf]; exact ⟨by rw [← hu]; rfl, BF.out⟩)
                  rw [hu] at hcv
                  clear hpf hlen hu hbig
                  go_wp2_with fail
                  go_ret2
                  exact PP.out
end Go.Proofs.YtmddnklafplikaaDoor
namespace Go.Proofs.YtmddnklafplikaaDoor
open Go.ChangeShapes Go.WideShapes Go.ChangeAt Go.RowKit
set_option linter.unusedVariables false
set_option maxRecDepth 20000
theorem Tryd.cellsStr : Tryd.prog.cellsOf 9 = 1 := by kernel_rfl
end Go.Proofs.YtmddnklafplikaaDoor
namespace Go.Proofs.YtmddnklafplikaaDoor
open Go.ChangeShapes Go.WideShapes Go.ChangeAt Go.RowKit Go.Deep
set_option linter.unusedVariables false
set_option maxRecDepth 20000
theorem open_rows_cell {H : Type} {enc : TypeId × Value → H} {P : Program} {W : World} {t e : TypeId} {k : Nat} {c : Value} {fuel : Nat} {y : DataW H × List MemPlace}
    (ht : P.underlying t = some (.slice e)) (hc : P.cellsOf e = k) (hk : 0 < k) (good : List Value → Prop)
    (hgood : ∀ m cs y, DataW.trod enc P W 0 (fun _ => true) true m e cs = some y → good cs)
    (hf : DataW.trod enc P W 0 (fun _ => true) true fuel t [c] = some y) :
    ∃ (a : Option Addr) (n cap : Nat) (R : Nat → List Value), c = .slice a n cap ∧ (a = none → n = 0 ∧ cap = 0) ∧ n ≤ cap ∧ cap ≤ maxLen ∧ (∀ i, i < n → good (R i)) ∧
      (0 < n → ∃ b o, a = some ⟨b, o, none⟩ ∧ ∀ i, i < n → ∀ j, j < k → W.cell? ⟨b, o + i * k + j, none⟩ = (R i)[j]?) := by
  rcases open_slice ht hf with ⟨hcs, _⟩ | ⟨x, len, cap, m, n, D, Pl, hcs, _, hl, hm, hmm, _, hx⟩
  · obtain rfl : c = .slice none 0 0 := by simpa using hcs
    exact ⟨none, 0, 0, fun _ => [], rfl, fun _ => ⟨rfl, rfl⟩, Nat.le_refl _, by unfold maxLen; omega, by simp, by simp⟩
  · obtain rfl : c = .slice (some x) len cap := by simpa using hcs
    simp at hmm
    subst hmm
    rw [hc] at hx
    have hR : ∀ i, ∃ cs' : List Value, i < m → W.cells? 0 (x.add (i * k)) k = some cs' ∧ good cs' := fun i => by
      by_cases hi : i < m
      · obtain ⟨cs', h1, h2⟩ := hx i hi
        exact ⟨cs', fun _ => ⟨h1, hgood _ _ _ h2⟩⟩
      · exact ⟨[], fun h => absurd h hi⟩
    refine ⟨some x, len, m, fun i => (hR i).choose, rfl, (fun h => by cases h), hl, hm, fun i hi => ((hR i).choose_spec (by omega)).2, fun h0 => ?_⟩
    have h1 := fun i (hi : i < m) => (World.cells?_some ((hR i).choose_spec hi).1)
    obtain ⟨b, off, spot⟩ := x
    have hspot : spot = none := by
      have h2 := (h1 0 (by omega)).2.2 0 hk
      have h3 := (h1 0 (by omega)).2.1
      have h4 : ((hR 0).choose)[0]? = some (((hR 0).choose)[0]'(by omega)) := List.getElem?_eq_getElem _
      rw [h4] at h2
      simpa [Addr.add] using World.cell?_spot h2
    subst hspot
    refine ⟨b, off, rfl, fun i hi j hj => ?_⟩
    have h2 := (h1 i (by omega)).2.2 j hj
    rw [← h2, Go.WideShapes.add_plain, Go.WideShapes.add_plain]
end Go.Proofs.YtmddnklafplikaaDoor
namespace Go.Proofs.YtmddnklafplikaaDoor
open Go.ChangeShapes Go.WideShapes Go.ChangeAt Go.RowKit Go.Deep
set_option linter.unusedVariables false
set_option maxRecDepth 20000
theorem open_pairs_cell {H : Type} {enc : TypeId × Value → H} {W : World} {c : Value} {fuel : Nat} {y : DataW H × List MemPlace} {t e : TypeId} {fs : Array Field} {f0 f1 : Field}
    (ht : Tryd.prog.underlying t = some (.slice e)) (he : Tryd.prog.underlying e = some (.struct fs)) (hc : Tryd.prog.cellsOf e = 2) (hf0 : fs[0]? = some f0) (hf1 : fs[1]? = some f1) (g0 : f0.type = 3 ∧ f0.offset = 0) (g1 : f1.type = 9 ∧ f1.offset = 1)
    (hf : DataW.trod enc Tryd.prog W 0 (fun _ => true) true fuel t [c] = some y) :
    ∃ a n cap ks, c = .slice a n cap ∧ HoldsK W a n ks ∧ (a = none → n = 0 ∧ cap = 0) ∧ n ≤ cap ∧ n ≤ 9223372036854775807 ∧ ∀ k ∈ ks, KeyOk k := by
  obtain ⟨a, n, cap, R, rfl, hnil, h1, h2, hg, hc⟩ := open_rows_cell ht hc (by omega) (fun cs => ∃ k : KV, KeyOk k ∧ cs = [.int .i64 k.1, .string k.2]) (fun _ _ _ h => pair_of he hc hf0 hf1 g0 g1 h) hf
  have hx : ∀ i, ∃ k : KV, i < n → KeyOk k ∧ R i = [.int .i64 k.1, .string k.2] := fun i => by
    by_cases hi : i < n
    · obtain ⟨x, h3⟩ := hg i hi
      exact ⟨x, fun _ => h3⟩
    · exact ⟨k0, fun h => absurd h hi⟩
  have hget : ∀ i, i < n → ((List.range n).map fun i => (hx i).choose).getD i k0 = (hx i).choose := fun i hi => by simp [List.getD_eq_getElem?_getD, hi]
  refine ⟨a, n, cap, (List.range n).map fun i => (hx i).choose, rfl, ⟨by simp, fun h0 => ?_⟩, hnil, h1, by unfold maxLen at h2; omega, fun k hk => ?_⟩
  · obtain ⟨b, o, ha, hcell⟩ := hc h0
    refine ⟨b, o, ha, fun i hi => ?_⟩
    have e := ((hx i).choose_spec hi).2
    have c0 := hcell i hi 0 (by omega)
    have c1 := hcell i hi 1 (by omega)
    rw [e] at c0 c1
    rw [hget i hi]
    exact ⟨by simpa using c0, by simpa using c1⟩
  · obtain ⟨i, hi, rfl⟩ := List.mem_map.1 hk
    exact ((hx i).choose_spec (by simpa using hi)).1
end Go.Proofs.YtmddnklafplikaaDoor
namespace Go.Proofs.YtmddnklafplikaaDoor
open Go.RowKit
set_option linter.unusedVariables false
set_option maxRecDepth 20000
def mayK (k : KV) : Prop := 1 ≤ k.1 ∧ k.1 ≤ 12 ∧ 0 ≤ lenS k.2 ∧ lenS k.2 ≤ 12
instance (k : KV) : Decidable (mayK k) := by unfold mayK; infer_instance
end Go.Proofs.YtmddnklafplikaaDoor
namespace Go.Proofs.YtmddnklafplikaaDoor
open Go.RowKit
set_option linter.unusedVariables false
set_option maxRecDepth 20000
def SortedK (l : List KV) : Prop := l.Pairwise fun a b => ordK a b < 0
instance (l : List KV) : Decidable (SortedK l) := by unfold SortedK; infer_instance
end Go.Proofs.YtmddnklafplikaaDoor
namespace Go.Proofs.YtmddnklafplikaaDoor
open Go.RowKit
set_option linter.unusedVariables false
set_option maxRecDepth 20000
/-- a configuration, and where its words and cuts lie -/
structure Cfg where
  wa : Option Addr
  wn : Nat
  wc : Nat
  ka : Option Addr
  kn : Nat
  kc : Nat
  W : Int
  C : Int
  S : Int
  B : Int
  L : Int
  H : Int
  F : Int
  P : Int
  J : Int
  N : Int
  ws : List Tx
  ks : List KV
def CfgOk (w : World) (c : Cfg) : Prop := HoldsT w c.wa c.wn c.ws ∧ (c.wa = none → c.wn = 0 ∧ c.wc = 0) ∧ c.wn ≤ c.wc ∧ c.wn ≤ 9223372036854775807 ∧ (∀ t ∈ c.ws, t.size ≤ 9223372036854775807) ∧ HoldsK w c.ka c.kn c.ks ∧ c.kn ≤ 9223372036854775807 ∧ ∀ k ∈ c.ks, KeyOk k
end Go.Proofs.YtmddnklafplikaaDoor
namespace Go.Proofs.YtmddnklafplikaaDoor
open Go.ChangeShapes Go.WideShapes Go.ChangeAt Go.RowKit
set_option linter.unusedVariables false
set_option maxRecDepth 20000
/-- A struct by value, opened: its cells, and of each field its own reading. -/
theorem open_aggs2 {H : Type} {enc : TypeId × Value → H} {P : Program} {w : World} {base : Nat} {spare : Nat → Bool} {held : Bool} {r : Reach} {b0 : Nat} {t : TypeId} {fs : Array Field} {v : Value} {d : DataW H} {p : List MemPlace}
    (hs : P.underlying t = some (.struct fs)) (hv : Value.okWide P w r b0 t v) (h : DataW.Trod enc P w base spare held t v d p) :
    ∃ cs : Array Value, v = .agg cs ∧ cs.size = P.cellsOf t ∧ ∃ n, ∀ (i : Nat) (f : Field), fs[i]? = some f → ∃ y, DataW.trod enc P w base spare held n f.type ((cs.toList.drop f.offset).take (P.cellsOf f.type)) = some y := by
  obtain ⟨cs, rfl, hsz⟩ := okWide_struct hs hv
  obtain ⟨fuel, hf⟩ := h
  obtain ⟨xs, n, _, _, hl, hlen, hx⟩ := DataW.trod_struct hs hf
  refine ⟨cs, rfl, hsz, n, fun i f hi => ?_⟩
  have h1 := hx i f hi
  have hlt : i < xs.length := by
    rw [hlen]
    rcases Nat.lt_or_ge i fs.size with h' | h'
    · exact h'
    · rw [Array.getElem?_eq_none h'] at hi; cases hi
  rw [List.getElem?_eq_getElem hlt] at h1
  exact ⟨_, by simpa [Value.cells] using h1⟩
theorem array12c {α : Type} {cs : Array α} (h : cs.size = 12) : ∃ c0 c1 c2 c3 c4 c5 c6 c7 c8 c9 c10 c11, cs = #[c0, c1, c2, c3, c4, c5, c6, c7, c8, c9, c10, c11] := by
  obtain ⟨l⟩ := cs
  match l, h with
  | [c0, c1, c2, c3, c4, c5, c6, c7, c8, c9, c10, c11], _ => exact ⟨c0, c1, c2, c3, c4, c5, c6, c7, c8, c9, c10, c11, rfl⟩
theorem open_texts_cell {H : Type} {enc : TypeId × Value → H} {W : World} {v : Value} {fuel : Nat} {y : DataW H × List MemPlace}
    (hf : DataW.trod enc Tryd.prog W 0 (fun _ => true) true fuel 27 [v] = some y) :
    ∃ a n cap ts, v = .slice a n cap ∧ HoldsT W a n ts ∧ (a = none → n = 0 ∧ cap = 0) ∧ n ≤ cap ∧ n ≤ 9223372036854775807 ∧ ∀ t ∈ ts, t.size ≤ 9223372036854775807 := by
  rcases open_strings Tryd.underlying27 Tryd.underlying9 Tryd.cellsStr hf with ⟨hcs, _⟩ | ⟨x, l, c, ss, hcs, _, hl, hm, hz, _, hcell, hsz⟩
  · obtain rfl : v = .slice none 0 0 := by simpa using hcs
    exact ⟨none, 0, 0, [], rfl, HoldsT.nil _ _, fun _ => ⟨rfl, rfl⟩, Nat.le_refl _, by omega, by simp⟩
  · obtain rfl : v = .slice (some x) l c := by simpa using hcs
    have hzc : ss.length = c := by simpa using hz
    refine ⟨some x, l, c, ss.take l, rfl, ?_, (fun h => by cases h), hl, by unfold maxLen at hm; omega, fun t ht => by have := hsz t (List.mem_of_mem_take ht); unfold maxLen at this; omega⟩
    refine ⟨by simp [strsV]; omega, fun h0 => ?_⟩
    obtain ⟨b, off, spot⟩ := x
    have hspot : spot = none := by simpa [Addr.add] using World.cell?_spot (hcell 0 (by omega))
    subst hspot
    refine ⟨b, off, rfl, fun i hi => ?_⟩
    rw [← Go.WideShapes.add_plain, hcell i (by omega), getD_map_str _ i (by simp; omega)]
    congr 2
    simp only [List.getD_eq_getElem?_getD, List.getElem?_take]
    rw [if_pos hi]
theorem cells_cfg : Tryd.prog.cellsOf 30 = 12 := by kernel_rfl
theorem cells_ci : Tryd.prog.cellsOf 3 = 1 := by kernel_rfl
theorem cells_ct : Tryd.prog.cellsOf 27 = 1 := by kernel_rfl
theorem cells_ck : Tryd.prog.cellsOf 28 = 1 := by kernel_rfl
theorem cfg_int {H : Type} {enc : TypeId × Value → H} {W : World} {c : Value} {fuel : Nat} {y : DataW H × List MemPlace} (hy : DataW.trod enc Tryd.prog W 0 (fun _ => true) true fuel 3 [c] = some y) : ∃ k : Int, c = .int .i64 k := by
  obtain ⟨k, hk, _⟩ := DataW.trod_int Tryd.underlying3 hy
  exact ⟨k, by simpa using hk⟩
set_option maxRecDepth 100000 in
theorem open_cfg {H : Type} {enc : TypeId × Value → H} {W : World} {base : Nat} {v : Value} {d : DataW H} {p : List MemPlace}
    (hv : Value.okWide Tryd.prog W .any base 30 v) (h : DataW.Trod enc Tryd.prog W 0 (fun _ => true) true 30 v d p) :
    ∃ c : Cfg, v = .agg #[.slice c.wa c.wn c.wc, .slice c.ka c.kn c.kc, .int .i64 c.W, .int .i64 c.C, .int .i64 c.S, .int .i64 c.B, .int .i64 c.L, .int .i64 c.H, .int .i64 c.F, .int .i64 c.P, .int .i64 c.J, .int .i64 c.N] ∧ CfgOk W c := by
  obtain ⟨cs, rfl, hsz, n, hf⟩ := open_aggs2 Tryd.underlying30 hv h
  obtain ⟨c0, c1, c2, c3, c4, c5, c6, c7, c8, c9, c10, c11, rfl⟩ := array12c (hsz.trans cells_cfg)
  obtain ⟨y0, z0⟩ := hf 0 _ rfl
  obtain ⟨wa, wn, wc, ws, rfl, q1, q2, q3, q4, q5⟩ := open_texts_cell (v := c0) (by simpa [cells_ct] using z0)
  obtain ⟨y1, z1⟩ := hf 1 _ rfl
  obtain ⟨ka, kn, kc, ks, rfl, r1, r2, r3, r4, r5⟩ := open_pairs_cell (c := c1) Tryd.underlying28 Tryd.underlying65 (by kernel_rfl) rfl rfl ⟨rfl, rfl⟩ ⟨rfl, rfl⟩ (by simpa [cells_ck] using z1)
  obtain ⟨y2, z2⟩ := hf 2 _ rfl
  obtain ⟨i2, rfl⟩ := cfg_int (c := c2) (by simpa [cells_ci] using z2)
  obtain ⟨y3, z3⟩ := hf 3 _ rfl
  obtain ⟨i3, rfl⟩ := cfg_int (c := c3) (by simpa [cells_ci] using z3)
  obtain ⟨y4, z4⟩ := hf 4 _ rfl
  obtain ⟨i4, rfl⟩ := cfg_int (c := c4) (by simpa [cells_ci] using z4)
  obtain ⟨y5, z5⟩ := hf 5 _ rfl
  obtain ⟨i5, rfl⟩ := cfg_int (c := c5) (by simpa [cells_ci] using z5)
  obtain ⟨y6, z6⟩ := hf 6 _ rfl
  obtain ⟨i6, rfl⟩ := cfg_int (c := c6) (by simpa [cells_ci] using z6)
  obtain ⟨y7, z7⟩ := hf 7 _ rfl
  obtain ⟨i7, rfl⟩ := cfg_int (c := c7) (by simpa [cells_ci] using z7)
  obtain ⟨y8, z8⟩ := hf 8 _ rfl
  obtain ⟨i8, rfl⟩ := cfg_int (c := c8) (by simpa [cells_ci] using z8)
  obtain ⟨y9, z9⟩ := hf 9 _ rfl
  obtain ⟨i9, rfl⟩ := cfg_int (c := c9) (by simpa [cells_ci] using z9)
  obtain ⟨y10, z10⟩ := hf 10 _ rfl
  obtain ⟨i10, rfl⟩ := cfg_int (c := c10) (by simpa [cells_ci] using z10)
  obtain ⟨y11, z11⟩ := hf 11 _ rfl
  obtain ⟨i11, rfl⟩ := cfg_int (c := c11) (by simpa [cells_ci] using z11)
  exact ⟨⟨wa, wn, wc, ka, kn, kc, i2, i3, i4, i5, i6, i7, i8, i9, i10, i11, ws, ks⟩, rfl, q1, q2, q3, q4, q5, r1, r4, r5⟩
end Go.Proofs.YtmddnklafplikaaDoor
namespace Go.Proofs.YtmddnklafplikaaDoor
open Go.ChangeShapes Go.WideShapes Go.ChangeAt Go.RowKit
set_option linter.unusedVariables false
set_option maxRecDepth 20000
theorem cellsEint : Tryd.prog.cellsOf 3 = 1 := by kernel_rfl
theorem cells_eev : Tryd.prog.cellsOf 50 = 7 := by kernel_rfl
theorem cells_eqry : Tryd.prog.cellsOf 48 = 3 := by kernel_rfl
theorem cells_estr : Tryd.prog.cellsOf 9 = 1 := by kernel_rfl
theorem qry_of {H : Type} {enc : TypeId × Value → H} {w : World} {base : Nat} {spare : Nat → Bool} {held : Bool} {fuel : Nat} {cs : List Value} {x : DataW H × List MemPlace}
    (h : DataW.trod enc Tryd.prog w base spare held fuel 48 cs = some x) : ∃ t k n, t.size ≤ 9223372036854775807 ∧ cs = [.string t, .int .i64 k, .int .i64 n] := by
  obtain ⟨hl, n, hf⟩ := struct_cells Tryd.underlying48 h
  rw [cells_eqry] at hl
  obtain ⟨c0, c1, c2, rfl⟩ : ∃ c0 c1 c2, cs = [c0, c1, c2] := by
    match cs, hl with
    | [a, b, c], _ => exact ⟨a, b, c, rfl⟩
  obtain ⟨y0, z0⟩ := hf 0 _ rfl
  obtain ⟨y1, z1⟩ := hf 1 _ rfl
  obtain ⟨y2, z2⟩ := hf 2 _ rfl
  obtain ⟨s, hs, _, b0⟩ := DataW.trod_string Tryd.underlying9 z0
  obtain ⟨k1, h1, _, _⟩ := DataW.trod_int Tryd.underlying3 z1
  obtain ⟨k2, h2, _, _⟩ := DataW.trod_int Tryd.underlying3 z2
  simp [cellsEint, cells_estr] at hs h1 h2
  subst hs h1 h2
  exact ⟨s, k1, k2, by unfold maxLen at b0; exact b0, rfl⟩
theorem ev_of {H : Type} {enc : TypeId × Value → H} {w : World} {base : Nat} {spare : Nat → Bool} {held : Bool} {fuel : Nat} {cs : List Value} {x : DataW H × List MemPlace}
    (h : DataW.trod enc Tryd.prog w base spare held fuel 50 cs = some x) : ∃ a : EvP, a.text.size ≤ 9223372036854775807 ∧ cs = cellsEv a := by
  obtain ⟨hl, n, hf⟩ := struct_cells Tryd.underlying50 h
  rw [cells_eev] at hl
  obtain ⟨c0, c1, c2, c3, c4, c5, c6, rfl⟩ : ∃ c0 c1 c2 c3 c4 c5 c6, cs = [c0, c1, c2, c3, c4, c5, c6] := by
    match cs, hl with
    | [c0, c1, c2, c3, c4, c5, c6], _ => exact ⟨c0, c1, c2, c3, c4, c5, c6, rfl⟩
  obtain ⟨y0, z0⟩ := hf 0 _ rfl
  obtain ⟨y1, z1⟩ := hf 1 _ rfl
  obtain ⟨y2, z2⟩ := hf 2 _ rfl
  obtain ⟨y3, z3⟩ := hf 3 _ rfl
  obtain ⟨y4, z4⟩ := hf 4 _ rfl
  obtain ⟨k0, h0, _, _⟩ := DataW.trod_int Tryd.underlying3 z0
  obtain ⟨k1, h1, _, _⟩ := DataW.trod_int Tryd.underlying3 z1
  obtain ⟨k2, h2, _, _⟩ := DataW.trod_int Tryd.underlying3 z2
  obtain ⟨k3, h3, _, _⟩ := DataW.trod_int Tryd.underlying3 z3
  obtain ⟨k4, k5, k6, b4, h4⟩ := qry_of z4
  simp [cellsEint, cells_eqry] at h0 h1 h2 h3 h4
  obtain ⟨e4, e5, e6⟩ := h4
  subst h0 h1 h2 h3 e4 e5 e6
  exact ⟨⟨k0, k1, k2, k3, k4, k5, k6⟩, b4, rfl⟩
theorem open_evs_arg {H : Type} {enc : TypeId × Value → H} {W : World} {base : Nat} {v : Value} {d : DataW H} {p : List MemPlace}
    (o : Value.okWide Tryd.prog W .any base 31 v) (h : DataW.Trod enc Tryd.prog W 0 (fun _ => true) true 31 v d p) :
    ∃ (a : Option Addr) (n c : Nat) (es : List EvP), v = .slice a n c ∧ HoldsEv W a n es ∧ n ≤ 9223372036854775807 ∧ ∀ x ∈ es, x.text.size ≤ 9223372036854775807 := by
  obtain ⟨a, n, c, R, rfl, hno, hnc, hcm, hg, hc⟩ := open_rows_arg (k := 7) Tryd.underlying31 cells_eev (by omega) (fun cs => ∃ a : EvP, a.text.size ≤ 9223372036854775807 ∧ cs = cellsEv a) (fun m cs y hy => ev_of hy) o h
  obtain ⟨f, hf⟩ : ∃ f : Nat → EvP, ∀ i, i < n → (f i).text.size ≤ 9223372036854775807 ∧ R i = cellsEv (f i) :=
    ⟨fun i => if hi : i < n then (hg i hi).choose else ev0, fun i hi => by simp only [dif_pos hi]; exact (hg i hi).choose_spec⟩
  have hgd : ∀ i, i < n → ((List.range n).map f).getD i ev0 = f i := fun i hi => by simp [List.getD_eq_getElem?_getD, hi]
  refine ⟨a, n, c, (List.range n).map f, rfl, ⟨by simp, fun h0 => ?_⟩, by unfold maxLen at hcm; omega, fun x hx => ?_⟩
  · obtain ⟨b, o, ha, hcc⟩ := hc h0
    refine ⟨b, o, ha, fun i hi => ?_⟩
    rw [hgd i hi]
    have e := (hf i hi).2
    have k := hcc i hi
    rw [e] at k
    exact ⟨k 0 (by omega), k 1 (by omega), k 2 (by omega), k 3 (by omega), k 4 (by omega), k 5 (by omega), k 6 (by omega)⟩
  · obtain ⟨i, hi, rfl⟩ := List.mem_map.1 hx
    exact (hf i (List.mem_range.1 hi)).1
end Go.Proofs.YtmddnklafplikaaDoor
namespace Go.Proofs.YtmddnklafplikaaDoor
open Go.RowKit
set_option linter.unusedVariables false
set_option maxRecDepth 20000
theorem tab10_of {laid : List (String × DataW Unit)} {W : World} (hL : laidMetH Tryd.prog laid W) (hT : (laid.filter fun x => x.1 == "internal/strconv.uint64pow10") = [("internal/strconv.uint64pow10", Lib.tabData .u64 Lib.pow10Tab)]) : Tab10 W := by
  have h1 := laidMetH.filter (fun x => x.1 == "internal/strconv.uint64pow10") hL
  rw [hT] at h1
  have h2 := (laidMetH_iff.1 h1).1
  have h3 : laidMet Tryd.prog [("internal/strconv.uint64pow10", Lib.tabData .u64 Lib.pow10Tab)] W := h2
  exact Lib.tabIs_of_head (g := 1) (by kernel_rfl) (by kernel_rfl) Tryd.underlying126 Tryd.underlying115 (by kernel_rfl) (by kernel_rfl) h3
theorem cfg_bounds {W : World} {c : Cfg} (h : CfgOk W c) : HoldsT W c.wa c.wn c.ws ∧ HoldsK W c.ka c.kn c.ks ∧ c.wn ≤ 9223372036854775807 ∧ (∀ t ∈ c.ws, t.size ≤ 9223372036854775807) ∧ c.kn ≤ 9223372036854775807 ∧ ∀ k ∈ c.ks, k.2.size ≤ 9223372036854775807 :=
  ⟨h.1, h.2.2.2.2.2.1, h.2.2.2.1, h.2.2.2.2.1, h.2.2.2.2.2.2.1, fun k hk => by have := h.2.2.2.2.2.2.2 k hk; unfold KeyOk at this; omega⟩
end Go.Proofs.YtmddnklafplikaaDoor
namespace Go.Proofs.YtmddnklafplikaaDoor
open Go.RowKit
set_option linter.unusedVariables false
set_option maxRecDepth 20000
theorem num29_any (v : Int) (w : World) : Calls Tryd.prog 17 #[.int .i64 v] w fun e w' => e = .returned (.int .i64 v) ∧ w = w' := by
  go_enter Tryd.func17, Tryd.ntmps17
  go_wp2_with fail
  go_ret
  exact ⟨rfl, rfl⟩
set_option maxRecDepth 100000 in
set_option maxHeartbeats 6400000 in
theorem scriptPrints_any (wa ka ea : Option Addr) (nw nk ne wc kc ec : Nat) (a0 a1 a2 a3 a4 a5 a6 a7 a8 a9 : Int) (ws : List Tx) (ks : List KV) (es : List EvP) (w : World)
    (hw : HoldsT w wa nw ws) (hk : HoldsK w ka nk ks) (he : HoldsEv w ea ne es) (ht : Tab10 w) (hm : MaxL w)
    (hn : nw ≤ 9223372036854775807) (hs : ∀ t ∈ ws, t.size ≤ 9223372036854775807) (hnk : nk ≤ 9223372036854775807) (hks : ∀ k ∈ ks, k.2.size ≤ 9223372036854775807) (hne : ne ≤ 9223372036854775807) (hes : ∀ x ∈ es, x.text.size ≤ 9223372036854775807) :
    Calls Tryd.prog 4 #[.agg #[.slice wa nw wc, .slice ka nk kc, .int .i64 a0, .int .i64 a1, .int .i64 a2, .int .i64 a3, .int .i64 a4, .int .i64 a5, .int .i64 a6, .int .i64 a7, .int .i64 a8, .int .i64 a9], .slice ea ne ec] w fun e w' => e = .returned (.bool true) ∧ Below w.heap.size w w' := by
  have AW := Lib.hid (fun w3 (hb : Below w.heap.size w w3) => (awake29_any w3 (hm.below hb (Nat.le_refl _))).mono (fun e w' h => (show e = .returned (.bool true) ∧ Below w.heap.size w w' from ⟨h.1, hb.trans (h.2.mono hb.size)⟩)))
  have B1 := Lib.hid (below_one w (.cells #[.slice wa nw wc, .slice ka nk kc, .int .i64 a0, .int .i64 a1, .int .i64 a2, .int .i64 a3, .int .i64 a4, .int .i64 a5, .int .i64 a6, .int .i64 a7, .int .i64 a8, .int .i64 a9] 30))
  obtain ⟨q, hq⟩ : ∃ q, w.heap.size = q := ⟨_, rfl⟩
  have CB := Lib.hid (show (w.alloc (.cells #[.slice wa nw wc, .slice ka nk kc, .int .i64 a0, .int .i64 a1, .int .i64 a2, .int .i64 a3, .int .i64 a4, .int .i64 a5, .int .i64 a6, .int .i64 a7, .int .i64 a8, .int .i64 a9] 30)).heap[q]? = some (.cells #[.slice wa nw wc, .slice ka nk kc, .int .i64 a0, .int .i64 a1, .int .i64 a2, .int .i64 a3, .int .i64 a4, .int .i64 a5, .int .i64 a6, .int .i64 a7, .int .i64 a8, .int .i64 a9] 30 (0, 0)) from by rw [← hq]; exact heap_alloc_new w _)
  have CG := Lib.hid (fun (w' : World) (hb : Below w.heap.size w w') => greatK_any wa ka nw nk wc kc a0 a1 a2 a3 a4 a5 a6 a7 a8 a9 ws ks w' (hw.below hb) (hk.below hb) hn hs hnk hks)
  have CE := Lib.hid (fun (w' : World) (hb : Below w.heap.size w w') => greatE_any ea ne ec es w' (he.below hb) hne hes)
  have HLN := Lib.hid (show ws.length = nw ∧ ks.length = nk ∧ es.length = ne from ⟨hw.len, hk.1, he.1⟩)
  have CP := Lib.hid (fun (w' : World) (hb : Below w.heap.size w w') (h1 : ws.length ≤ 80 ∧ ∀ t ∈ ws, t.size ≤ 100) (h2 : ks.length ≤ 10 ∧ ∀ k ∈ ks, k.2.size ≤ 100) (h3 : es.length ≤ 300 ∧ ∀ x ∈ es, x.text.size ≤ 100) => print_any wa ka ea nw nk ne wc kc ec a0 a1 a2 a3 a4 a5 a6 a7 a8 a9 ws ks es w' (hw.below hb) (hk.below hb) (he.below hb) (ht.below hb (Nat.le_refl _)) (by have := hw.len; omega) (by have := hk.1; omega) (by have := he.1; omega) (fun t h => by have := h1.2 t h; omega) (fun t h => by have := h2.2 t h; omega) (fun t h => by have := h3.2 t h; omega) (fun hm => printB_small ws ks [a0, a1, a2, a3, a4, a5, a6, a7, a8, a9] es h1 h2 rfl h3 hm))
  have CR := Lib.hid (fun (w' : World) (hb : Below w.heap.size w w') (h1 : ws.length ≤ 80 ∧ ∀ t ∈ ws, t.size ≤ 100) (h2 : ks.length ≤ 10 ∧ ∀ k ∈ ks, k.2.size ≤ 100) (h3 : es.length ≤ 300 ∧ ∀ x ∈ es, x.text.size ≤ 100) => rprint_any wa ka ea nw nk ne wc kc ec a0 a1 a2 a3 a4 a5 a6 a7 a8 a9 ws ks es w' (hw.below hb) (hk.below hb) (he.below hb) (by have := hw.len; omega) (by have := hk.1; omega) (by have := he.1; omega) h1.2 h2.2 h3.2)
  clear hw hk he ht hm hs hks hes hn hnk hne
  go_enter Tryd.func4, Tryd.ntmps4
  go_wp2_with fail
  refine (CG.out _ B1.out).mono ?_
  rintro e w2 ⟨z, rfl, hz, hb2⟩
  have B2 := Lib.hid (below_next B1.out hb2)
  have K2 := Lib.hid (show w2.heap[q]? = some (.cells #[.slice wa nw wc, .slice ka nk kc, .int .i64 a0, .int .i64 a1, .int .i64 a2, .int .i64 a3, .int .i64 a4, .int .i64 a5, .int .i64 a6, .int .i64 a7, .int .i64 a8, .int .i64 a9] 30 (0, 0)) from (hb2.block _ (lt_of_heap29 CB.out)).trans CB.out)
  clear hb2 CG CB
  cases z with
  | true =>
    go_wp2_with fail
    refine (AW.out _ B2.out).mono ?_
    rintro e wz ⟨rfl, hbz⟩
    go_wp2_with fail
    go_ret
    exact ⟨rfl, hbz⟩
  | false =>
    obtain ⟨hz1, hz2⟩ := hz rfl
    clear hz
    go_wp2_with fail
    refine (CE.out _ B2.out).mono ?_
    rintro e w3 ⟨z, rfl, hz, rfl⟩
    cases z with
    | true =>
      go_wp2_with fail
      refine (AW.out _ B2.out).mono ?_
      rintro e wz ⟨rfl, hbz⟩
      go_wp2_with fail
      go_ret
      exact ⟨rfl, hbz⟩
    | false =>
      have hz3 := hz rfl
      have CP2 := Lib.hid (fun w' hb => CP.out w' hb hz1 hz2 hz3)
      have CR2 := Lib.hid (fun w' hb => CR.out w' hb hz1 hz2 hz3)
      obtain ⟨r, hr⟩ : ∃ r, printF ⟨ws, ks, [a0, a1, a2, a3, a4, a5, a6, a7, a8, a9], es⟩ = r := ⟨_, rfl⟩
      rw [hr] at CP2 CR2
      obtain ⟨s, hs⟩ : ∃ s : ByteArray, (⟨r.1.toArray⟩ : ByteArray) = s := ⟨_, rfl⟩
      obtain ⟨k, hk⟩ : ∃ k, r.2 = k := ⟨_, rfl⟩
      unfold PrintP at CP2 CR2
      rw [hs, hk] at CP2 CR2
      clear hz hz1 hz2 hz3 CP CE CR hr hs hk
      have f0 : w3.cell? ⟨q, 0, none⟩ = some (.slice wa nw wc) := by rw [Lib.cell_of_heap K2.out]; rfl
      have f1 : w3.cell? ⟨q, 1, none⟩ = some (.slice ka nk kc) := by rw [Lib.cell_of_heap K2.out]; rfl
      have f2 : w3.cell? ⟨q, 2, none⟩ = some (.int .i64 a0) := by rw [Lib.cell_of_heap K2.out]; rfl
      have f3 : w3.cell? ⟨q, 3, none⟩ = some (.int .i64 a1) := by rw [Lib.cell_of_heap K2.out]; rfl
      have f4 : w3.cell? ⟨q, 4, none⟩ = some (.int .i64 a2) := by rw [Lib.cell_of_heap K2.out]; rfl
      have f5 : w3.cell? ⟨q, 5, none⟩ = some (.int .i64 a3) := by rw [Lib.cell_of_heap K2.out]; rfl
      have f6 : w3.cell? ⟨q, 6, none⟩ = some (.int .i64 a4) := by rw [Lib.cell_of_heap K2.out]; rfl
      have f7 : w3.cell? ⟨q, 7, none⟩ = some (.int .i64 a5) := by rw [Lib.cell_of_heap K2.out]; rfl
      have f8 : w3.cell? ⟨q, 8, none⟩ = some (.int .i64 a6) := by rw [Lib.cell_of_heap K2.out]; rfl
      have f9 : w3.cell? ⟨q, 9, none⟩ = some (.int .i64 a7) := by rw [Lib.cell_of_heap K2.out]; rfl
      have f10 : w3.cell? ⟨q, 10, none⟩ = some (.int .i64 a8) := by rw [Lib.cell_of_heap K2.out]; rfl
      have f11 : w3.cell? ⟨q, 11, none⟩ = some (.int .i64 a9) := by rw [Lib.cell_of_heap K2.out]; rfl
      go_wp2_with fail
      refine (CP2.out _ B2.out).mono ?_
      rintro e w4 ⟨rfl, hb4⟩
      have B4 := Lib.hid (B2.out.trans (hb4.mono B2.out.size))
      have K4 := Lib.hid (show w4.heap[q]? = some (.cells #[.slice wa nw wc, .slice ka nk kc, .int .i64 a0, .int .i64 a1, .int .i64 a2, .int .i64 a3, .int .i64 a4, .int .i64 a5, .int .i64 a6, .int .i64 a7, .int .i64 a8, .int .i64 a9] 30 (0, 0)) from (hb4.block _ (lt_of_heap29 K2.out)).trans K2.out)
      clear hb4 CP2 f0 f1 f2 f3 f4 f5 f6 f7 f8 f9 f10 f11 K2
      have f0 : w4.cell? ⟨q, 0, none⟩ = some (.slice wa nw wc) := by rw [Lib.cell_of_heap K4.out]; rfl
      have f1 : w4.cell? ⟨q, 1, none⟩ = some (.slice ka nk kc) := by rw [Lib.cell_of_heap K4.out]; rfl
      have f2 : w4.cell? ⟨q, 2, none⟩ = some (.int .i64 a0) := by rw [Lib.cell_of_heap K4.out]; rfl
      have f3 : w4.cell? ⟨q, 3, none⟩ = some (.int .i64 a1) := by rw [Lib.cell_of_heap K4.out]; rfl
      have f4 : w4.cell? ⟨q, 4, none⟩ = some (.int .i64 a2) := by rw [Lib.cell_of_heap K4.out]; rfl
      have f5 : w4.cell? ⟨q, 5, none⟩ = some (.int .i64 a3) := by rw [Lib.cell_of_heap K4.out]; rfl
      have f6 : w4.cell? ⟨q, 6, none⟩ = some (.int .i64 a4) := by rw [Lib.cell_of_heap K4.out]; rfl
      have f7 : w4.cell? ⟨q, 7, none⟩ = some (.int .i64 a5) := by rw [Lib.cell_of_heap K4.out]; rfl
      have f8 : w4.cell? ⟨q, 8, none⟩ = some (.int .i64 a6) := by rw [Lib.cell_of_heap K4.out]; rfl
      have f9 : w4.cell? ⟨q, 9, none⟩ = some (.int .i64 a7) := by rw [Lib.cell_of_heap K4.out]; rfl
      have f10 : w4.cell? ⟨q, 10, none⟩ = some (.int .i64 a8) := by rw [Lib.cell_of_heap K4.out]; rfl
      have f11 : w4.cell? ⟨q, 11, none⟩ = some (.int .i64 a9) := by rw [Lib.cell_of_heap K4.out]; rfl
      go_wp2_with fail
      refine (CR2.out _ B4.out).mono ?_
      rintro e w5 ⟨rfl, hb5⟩
      have B5 := Lib.hid (B4.out.trans (hb5.mono B4.out.size))
      clear hb5 CR2 f0 f1 f2 f3 f4 f5 f6 f7 f8 f9 f10 f11 K4
      have e1 : (s.toList == s.toList) = true := by simp
      go_wp2_with fail
      refine (num29_any _ _).mono ?_
      rintro e w6 ⟨rfl, rfl⟩
      go_wp2_with fail
      refine (AW.out _ B5.out).mono ?_
      rintro e wz ⟨rfl, hbz⟩
      go_wp2_with fail
      go_ret
      exact ⟨rfl, hbz⟩
open Go.ChangeShapes Go.WideShapes Go.ChangeAt in
theorem scriptPrints_walk {H : Type} {enc : TypeId × Value → H} {laid : List (String × DataW Unit)} (W : World) (base : Nat) (v0 v1 : Value) (d0 d1 : DataW H) (p0 p1 : List MemPlace)
    (h0 : DataW.Trod enc Tryd.prog W 0 (fun _ => true) true 30 v0 d0 p0) (h1 : DataW.Trod enc Tryd.prog W 0 (fun _ => true) true 31 v1 d1 p1)
    (o0 : Value.okWide Tryd.prog W .any base 30 v0) (o1 : Value.okWide Tryd.prog W .any base 31 v1) (hL : laidMetH Tryd.prog laid W) (hsh : W.ShapedOpen Tryd.prog)
    (hT : (laid.filter fun x => x.1 == "internal/strconv.uint64pow10") = [("internal/strconv.uint64pow10", Lib.tabData .u64 Lib.pow10Tab)] := by kernel_rfl) :
    Calls Tryd.prog 4 #[v0, v1] W fun e w' => e = .returned (.bool true) ∧ RowKit.Below W.heap.size W w' := by
  obtain ⟨c, rfl, hc⟩ := open_cfg o0 h0
  obtain ⟨a, n, cp, es, rfl, he, hn, hes⟩ := open_evs_arg o1 h1
  obtain ⟨q1, q2, q3, q4, q5, q6⟩ := cfg_bounds hc
  exact scriptPrints_any c.wa c.ka a c.wn c.kn n c.wc c.kc cp c.W c.C c.S c.B c.L c.H c.F c.P c.J c.N c.ws c.ks es W q1 q2 he (tab10_of hL hT) (maxL_of hsh) q3 q4 q5 q6 hn hes
end Go.Proofs.YtmddnklafplikaaDoor
