/- texts joined -/
import Derived.Shelf.Strings.Builder1
import Derived.Shelf.Strings.BuilderK
import Derived.Test.YtmddnklafplikaaDoorChecked
import Derived.WalkLawsBesides
import Derived.Outline
import Derived.Lib.Hide
import Derived.WalkKit
import Derived.ProofKit
import Derived.OpenShut
import Derived.Lib.SmallJoins
import Derived.Laws.RangeAny
import Derived.Lib.DecodeN
import Derived.Lib.ConvBytes
import Derived.Laws.Rows
import Derived.Lib.ItoaNum
import Derived.Lib.Split
import Derived.Lib.Join
import Derived.Deep.Slices
import Derived.OwnWalk
import Derived.Laws.AppendOwnNone
import Derived.WalkSpells
import Derived.Deep.QuietTactic
import Derived.BigQuiet
import Derived.Deep.DeepCutAuto
import Derived.Sort.Walk0
import Derived.SliceStrings
import Derived.Shelf.Small.Strs
import Derived.Lib.OthersKept
import Derived.WalkSmall
import Derived.Shelf.Strings.Split
import Derived.Shelf.Strings.Prefix
import Derived.Lib.SplitLaws
import Derived.Shelf.Strings.OnBuilder
import Derived.Deep.RegionWith
import Derived.BigRegion
import Derived.Shelf.Strconv.Itoa3
import Derived.Deep.RegionHeld3
import Derived.Deep.RegionLaw
import Derived.Deep.AppendLies
import Derived.Deep.MidRow
import Derived.BigGuard
import Derived.Shelf.Vars
import Derived.LaidSub
import Derived.KernelRfl
import Derived.Test.YtmddnklafplikaaDoorPkLB
namespace Go.Proofs.YtmddnklafplikaaDoor
open Go.RowKit
set_option linter.unusedVariables false
set_option maxRecDepth 20000
theorem splitL_le (c : UInt8) : ∀ l, ∀ p ∈ splitL c l, p.length ≤ l.length
  | [], p, h => by simp [splitL] at h; subst h; simp
  | x :: l, p, h => by
    have ih := splitL_le c l
    unfold splitL at h
    split at h
    · rcases List.mem_cons.1 h with rfl | h
      · simp
      · have := ih p h; simp; omega
    · match hs : splitL c l, splitL_ne c l with
      | q :: t, _ =>
        rw [hs] at h ih
        rcases List.mem_cons.1 h with rfl | h
        · have := ih q (by simp); simp; omega
        · have := ih p (by simp [h]); simp; omega
theorem holds_rest {w : World} {b o q c : Nat} {t : Tx} {ts : List Tx} (h : HoldsT w (some ⟨b, o, none⟩) (q + 1) (t :: ts)) (hc : q + 1 ≤ c) : HoldsT w (if c = 1 then some ⟨b, o, none⟩ else some ⟨b, o + 1, none⟩) q ts := by
  have h1 := h.drop 1 (by omega)
  simp only [List.drop_succ_cons, List.drop_zero, Nat.add_sub_cancel] at h1
  split
  · obtain rfl : q = 0 := by omega
    exact ⟨h1.1, fun h => absurd h (by omega)⟩
  · exact h1
theorem LineP.ret {R b : Nat} {w w' : World} {o : Option PS} {e : Ending} (h : LineP R b w o e w') : e = .returned (.bool o.isSome) := by
  cases o with
  | none => exact h.2
  | some st => exact h.2.1
theorem LineP.past {R b : Nat} {w w4 w' : World} {o : Option PS} {e : Ending} (h : LineP R b w4 o e w') (k : KP R b w w4) : LineP R b w o e w' := ⟨k.trans h.1, h.2⟩
theorem lit_yes {t : Tx} {l : List UInt8} (h : t.data.toList = l) : (t.toList == l) = true := by rw [ByteArray.toList_eq, h]; simp
theorem lit_no {t : Tx} {l : List UInt8} (h : t.data.toList ≠ l) : (t.toList == l) = false := by rw [ByteArray.toList_eq]; simpa using h
set_option maxRecDepth 100000 in
set_option maxHeartbeats 1600000 in
theorem line_any (R b : Nat) (st : PS) (l : ByteArray) (w : World) (hp : PA w R b st) (hR : R ≤ w.heap.size) (hs : l.size ≤ 300000) (hm : MaxL w) (hc1 : st.ws.length + 1 ≤ 1048576) (hc2 : st.ks.length + 1 ≤ 1048576) (hc3 : st.es.length + 1 ≤ 1048576) :
    Calls Tryd.prog 36 #[.pointer (some ⟨b, 0, none⟩), .string l] w (LineP R b w (lineF st l.data.toList)) := by
  have CS := Lib.hid (split_any 32 l { data := #[32] } w (by omega) hm rfl rfl)
  have hll : l.data.toList.length = l.size := by simp
  obtain ⟨d, hd⟩ : ∃ d, l.data.toList = d := ⟨_, rfl⟩
  rw [hd] at CS hll ⊢
  have HP := Lib.hid hp
  have hbR : b < R := by obtain ⟨_, _, _, _, _, _, h⟩ := hp; exact h.bR
  have HLL := Lib.hid hll
  clear hp hm hd hll
  go_enter Tryd.func36, Tryd.ntmps36
  go_wp2_with fail
  refine CS.out.mono ?_
  rintro e w4 ⟨ts, n, rfl, hT, hb, hB, hn⟩
  obtain ⟨t, r, rfl⟩ : ∃ t r, ts = t :: r := by
    match ts with
    | [] => exact absurd hb.symm (splitL_ne 32 d)
    | t :: r => exact ⟨t, r, rfl⟩
  have hlF : lineF st d = partsF st t.data.toList (bytesL r) := by
    unfold lineF; rw [← hb]; rfl
  have hsz : ∀ x ∈ t :: r, ByteArray.size x ≤ 300000 := fun x hx => by
    have h1 : x.data.toList ∈ splitL 32 d := by rw [← hb]; exact List.mem_map_of_mem hx
    have h2 := splitL_le 32 d _ h1
    have h3 : x.data.toList.length = ByteArray.size x := Array.length_toList
    have := HLL.out; omega
  have hlen := hT.len
  obtain ⟨q, rfl⟩ : ∃ q, n = q + 1 := ⟨n - 1, by simp at hlen; omega⟩
  have hq9 : q ≤ 300000 := by
    have h1 : (splitL 32 d).length ≤ d.length + 1 := by
      have : ∀ l : List UInt8, (splitL 32 l).length ≤ l.length + 1 := by
        intro l
        induction l with
        | nil => simp [splitL]
        | cons x l ih =>
          unfold splitL
          split
          · simp; omega
          · split
            · simp
            · rename_i h t e
              rw [e] at ih; simp at ih ⊢; omega
      exact this d
    have := HLL.out; omega
  obtain ⟨bb, oo, e1, hcc⟩ := hT.at (by omega)
  have x0 : w4.cell? ⟨w.heap.size, 0, none⟩ = some (.string t) := by
    injection e1 with e1
    injection e1 with e1 e2
    subst e1; subst e2
    exact hcc 0 (by omega)
  obtain ⟨K, hK⟩ : ∃ K, w.heap.size = K := ⟨_, rfl⟩
  rw [hK] at hT x0 e1 ⊢
  have HR4 := Lib.hid (holds_rest (c := q + 1) hT (Nat.le_refl _))
  obtain ⟨ra, hra⟩ : ∃ a, (if q = 0 then (some ⟨K, 0, none⟩ : Option Addr) else some ⟨K, 1, none⟩) = a := ⟨_, rfl⟩
  rw [show (if q + 1 = 1 then (some ⟨K, 0, none⟩ : Option Addr) else some ⟨K, 0 + 1, none⟩) = ra from by rw [← hra]; simp] at HR4
  have hR4 : R ≤ w4.heap.size := Nat.le_trans hR hB.size
  have P4 := Lib.hid (HP.out.below hB)
  have K4 := Lib.hid (KP.below hB hR hbR)
  have HSZ := Lib.hid (show ∀ x ∈ r, ByteArray.size x ≤ 300000 from fun x hx => hsz x (by simp [hx]))
  have HLF := Lib.hid hlF
  have LW := Lib.hid (word_any R b st ra q q r w4 P4.out hR4 HR4.out (by omega) HSZ.out hc1)
  have LC := Lib.hid (cut_pany R b st ra q q r w4 P4.out hR4 HR4.out (by omega) HSZ.out hc2)
  have LS := Lib.hid (set_any R b st ra q q r w4 P4.out hR4 HR4.out (by omega) HSZ.out)
  have LE := Lib.hid (event_any R b st ra q q r w4 P4.out hR4 HR4.out (by omega) HSZ.out hc3)
  have LA := Lib.hid (ask_any R b st ra q q r w4 P4.out hR4 HR4.out (by omega) HSZ.out hc3 (by omega))
  clear hT hb hB hn hlF hsz hlen e1 hcc hK
  by_cases h0 : t.data.toList = wordB
  · have g0 := lit_yes h0
    have HF := Lib.hid (show lineF st d = wordF st (bytesL r) from by rw [HLF.out]; unfold partsF; rw [if_pos h0])
    unfold wordB at g0
    clear h0
    go_wp2_with fail
    refine LW.out.mono ?_
    intro e w5 h5
    have he := h5.ret
    subst he
    have H5 := Lib.hid (h5.past K4.out)
    clear h5
    go_wp2_with fail
    go_ret
    rw [HF.out]
    exact H5.out
  have g0 := lit_no h0
  unfold wordB at g0
  by_cases h1 : t.data.toList = cutB
  · have g1 := lit_yes h1
    have HF := Lib.hid (show lineF st d = cutF st (bytesL r) from by rw [HLF.out]; unfold partsF; rw [if_neg h0]; rw [if_pos h1])
    unfold cutB at g1
    clear h0 h1
    go_wp2_with fail
    refine LC.out.mono ?_
    intro e w5 h5
    have he := h5.ret
    subst he
    have H5 := Lib.hid (h5.past K4.out)
    clear h5
    go_wp2_with fail
    go_ret
    rw [HF.out]
    exact H5.out
  have g1 := lit_no h1
  unfold cutB at g1
  by_cases h2 : t.data.toList = setB
  · have g2 := lit_yes h2
    have HF := Lib.hid (show lineF st d = setF st (bytesL r) from by rw [HLF.out]; unfold partsF; rw [if_neg h0]; rw [if_neg h1]; rw [if_pos h2])
    unfold setB at g2
    clear h0 h1 h2
    go_wp2_with fail
    refine LS.out.mono ?_
    intro e w5 h5
    have he := h5.ret
    subst he
    have H5 := Lib.hid (h5.past K4.out)
    clear h5
    go_wp2_with fail
    go_ret
    rw [HF.out]
    exact H5.out
  have g2 := lit_no h2
  unfold setB at g2
  by_cases h3 : t.data.toList = evB
  · have g3 := lit_yes h3
    have HF := Lib.hid (show lineF st d = evF st (bytesL r) from by rw [HLF.out]; unfold partsF; rw [if_neg h0]; rw [if_neg h1]; rw [if_neg h2]; rw [if_pos h3])
    unfold evB at g3
    clear h0 h1 h2 h3
    go_wp2_with fail
    refine LE.out.mono ?_
    intro e w5 h5
    have he := h5.ret
    subst he
    have H5 := Lib.hid (h5.past K4.out)
    clear h5
    go_wp2_with fail
    go_ret
    rw [HF.out]
    exact H5.out
  have g3 := lit_no h3
  unfold evB at g3
  by_cases h4 : t.data.toList = askB
  · have g4 := lit_yes h4
    have HF := Lib.hid (show lineF st d = askF st (bytesL r) from by rw [HLF.out]; unfold partsF; rw [if_neg h0]; rw [if_neg h1]; rw [if_neg h2]; rw [if_neg h3]; rw [if_pos h4])
    unfold askB at g4
    clear h0 h1 h2 h3 h4
    go_wp2_with fail
    refine LA.out.mono ?_
    intro e w5 h5
    have he := h5.ret
    subst he
    have H5 := Lib.hid (h5.past K4.out)
    clear h5
    go_wp2_with fail
    go_ret
    rw [HF.out]
    exact H5.out
  have g4 := lit_no h4
  unfold askB at g4
  have HF := Lib.hid (show lineF st d = none from by rw [HLF.out]; unfold partsF; rw [if_neg h0, if_neg h1, if_neg h2, if_neg h3, if_neg h4])
  clear h0 h1 h2 h3 h4
  go_wp2_with fail
  go_ret
  exact LineP.no HF.out K4.out rfl
end Go.Proofs.YtmddnklafplikaaDoor
namespace Go.Proofs.YtmddnklafplikaaDoor
open Go.RowKit
set_option linter.unusedVariables false
set_option maxRecDepth 20000
theorem results_cell4 {fn : Func} {p q r s : Tmp} {ty : TypeId} (h : fn.results = #[.cell p ty, .tmp q, .tmp r, .tmp s]) (tmps : Array Value) (w : World) (g : Nat) (V v v2 v3 : Value)
    (hp : tmps.getD p undef = .pointer (some ⟨g, 0, none⟩)) (hv : tmps.getD q undef = v) (hv2 : tmps.getD r undef = v2) (hv3 : tmps.getD s undef = v3) (hl : (loadVar ty ⟨g, 0, none⟩).run Tryd.prog w = .ok V w) :
    (results fn tmps).run Tryd.prog w = .ok (.tuple #[V, v, v2, v3]) w := by
  have hp' : tmps[p]?.getD undef = .pointer (some ⟨g, 0, none⟩) := by simpa using hp
  have hv' : tmps[q]?.getD undef = v := by simpa using hv
  have hv2' : tmps[r]?.getD undef = v2 := by simpa using hv2
  have hv3' : tmps[s]?.getD undef = v3 := by simpa using hv3
  simp [results, h, hp', hv', hv2', hv3', asAddr, hl]
def cfgA (wa ka : Option Addr) (wc kc : Nat) (st : PS) : Array Value := #[.slice wa st.ws.length wc, .slice ka st.ks.length kc, .int .i64 (st.ns.getD 0 0), .int .i64 (st.ns.getD 1 0), .int .i64 (st.ns.getD 2 0), .int .i64 (st.ns.getD 3 0), .int .i64 (st.ns.getD 4 0), .int .i64 (st.ns.getD 5 0), .int .i64 (st.ns.getD 6 0), .int .i64 (st.ns.getD 7 0), .int .i64 (st.ns.getD 8 0), .int .i64 (st.ns.getD 9 0)]
structure ParsedAt (w : World) (B : Nat) (wa ka ea : Option Addr) (wc kc ec : Nat) (st : PS) : Prop where
  rw : w.ownsRow B 9 1 (.slice wa st.ws.length wc) st.ws.length (strsV st.ws)
  rk : w.ownsRow B 65 2 (.slice ka st.ks.length kc) st.ks.length (keysV st.ks)
  re : w.ownsRow B 50 7 (.slice ea st.es.length ec) st.es.length (evsV st.es)
  len : st.ns.length = 10
  cap : st.ws.length ≤ 1048576 ∧ st.ks.length ≤ 1048576 ∧ st.es.length ≤ 1048576
def ParP (w : World) (r : PS × Nat × Nat) (e : Ending) (w' : World) : Prop := ∃ wa ka ea wc kc ec, e = .returned (.tuple #[.agg (cfgA wa ka wc kc r.1), .slice ea r.1.es.length ec, .int .i64 (r.2.1 : Int), .int .i64 (r.2.2 : Int)]) ∧ ParsedAt w' w.heap.size wa ka ea wc kc ec r.1 ∧ Below w.heap.size w w'
theorem parsed_zero (w : World) (B : Nat) : ParsedAt w B none none none 0 0 0 ps0 := ⟨World.ownsRow_nil _ _ _ _, World.ownsRow_nil _ _ _ _, World.ownsRow_nil _ _ _ _, rfl, by decide⟩
theorem partsF_grow {st st' : PS} {k : List UInt8} {r : List (List UInt8)} (h : partsF st k r = some st') : st'.ws.length ≤ st.ws.length + 1 ∧ st'.ks.length ≤ st.ks.length + 1 ∧ st'.es.length ≤ st.es.length + 1 := by
  unfold partsF at h
  split at h
  · unfold wordF at h
    split at h
    · split at h
      · injection h with h; subst h; simp
      · cases h
    · cases h
  · split at h
    · unfold cutF at h
      split at h
      · split at h
        · injection h with h; subst h; simp
        · cases h
      · cases h
    · split at h
      · unfold setF at h
        split at h
        · injection h with h; subst h; simp
        · cases h
      · split at h
        · unfold evF at h
          split at h
          · split at h
            · cases h
            · injection h with h; subst h; simp
          · cases h
        · split at h
          · unfold askF at h
            split at h
            · split at h
              · injection h with h; subst h; simp
              · cases h
            · cases h
          · cases h
theorem lineF_grow {st st' : PS} {l : List UInt8} (h : lineF st l = some st') : st'.ws.length ≤ st.ws.length + 1 ∧ st'.ks.length ≤ st.ks.length + 1 ∧ st'.es.length ≤ st.es.length + 1 := by
  unfold lineF at h
  split at h
  · exact partsF_grow h
  · cases h
theorem linesL_le (s : List UInt8) : (linesL s).length ≤ s.length + 1 ∧ ∀ p ∈ linesL s, p.length ≤ s.length := by
  have h1 : ∀ l : List UInt8, (splitL 10 l).length ≤ l.length + 1 := by
    intro l
    induction l with
    | nil => simp [splitL]
    | cons x l ih =>
      unfold splitL
      split
      · simp; omega
      · split
        · simp
        · rename_i h t e
          rw [e] at ih; simp at ih ⊢; omega
  have h2 : (trimN s).length ≤ s.length := by
    unfold trimN
    split
    · rw [List.length_dropLast]; omega
    · omega
  unfold linesL
  split
  · simp
  · refine ⟨Nat.le_trans (h1 _) (by omega), fun p hp => Nat.le_trans (splitL_le 10 _ p hp) h2⟩
theorem holds_kept {w w' : World} {a : Option Addr} {n : Nat} {ts : List Tx} (h : HoldsT w a n ts) (hk : ∀ g o, a = some ⟨g, o, none⟩ → w'.heap[g]? = w.heap[g]?) : HoldsT w' a n ts := by
  refine ⟨h.1, fun h0 => ?_⟩
  obtain ⟨b, o, ha, hc⟩ := h.2 h0
  exact ⟨b, o, ha, fun i hi => (World.cell?_of_block (w := w) (hk b o ha)).trans (hc i hi)⟩
theorem owns_lowS {w : World} {B B' : Nat} {e : TypeId} {size : Nat} {v : Value} {n : Nat} {xs : List Value} (h : w.ownsRow B e size v n xs) (hb : B' ≤ B) : w.ownsRow B' e size v n xs := by
  refine ⟨h.1, ?_⟩
  rcases h.2 with hn | ⟨g, cap, cur, hv, hB, rest⟩
  · exact Or.inl hn
  · exact Or.inr ⟨g, cap, cur, hv, Nat.le_trans hb hB, rest⟩
theorem grown_rowS (w : World) (g : Nat) (cs : Array Value) : w.grownBy (w.setRow g cs) (some g) := ⟨rfl, rfl, rfl, by simp, fun k hk hne => setRow_other w g k cs (fun e => hne (by rw [e]))⟩
theorem ParAt.parsed {w w' : World} {R b q B : Nat} {wa ka ea : Option Addr} {wc kc ec : Nat} {st : PS} (h : ParAt w R b wa ka ea wc kc ec st) (hg : w.grownBy w' (some q)) (hq : q < R) (hB : B ≤ R) : ParsedAt w' B wa ka ea wc kc ec st :=
  ⟨owns_lowS (h.rw.kept hg (Or.inr fun e => by have := (h.rw.lt q e).1; omega)) hB, owns_lowS (h.rk.kept hg (Or.inr fun e => by have := (h.rk.lt q e).1; omega)) hB, owns_lowS (h.re.kept hg (Or.inr fun e => by have := (h.re.lt q e).1; omega)) hB, h.len, h.cap⟩
theorem cfg_size : (Tryd.prog.info? 30).map (·.size) = some 12 := by kernel_rfl
def zPar : Array Value := #[.slice none 0 0, .slice none 0 0, .int .i64 0, .int .i64 0, .int .i64 0, .int .i64 0, .int .i64 0, .int .i64 0, .int .i64 0, .int .i64 0, .int .i64 0, .int .i64 0, .slice none 0 0]
theorem below_rowS {B q : Nat} {w w' : World} (h : Below B w w') (hq : B ≤ q) (cs : Array Value) : Below B w (w'.setRow q cs) := ⟨h.os, h.tape, h.output, by simpa using h.size, fun k hk => (setRow_other w' q k cs (by omega)).trans (h.block k hk)⟩
theorem readF_no {st : PS} {i : Nat} {l : List UInt8} {r : List (List UInt8)} (h : lineF st l = none) : readF st i (l :: r) = (ps0, i + 1) := by rw [readF, h]
theorem readF_yes {st st' : PS} {i : Nat} {l : List UInt8} {r : List (List UInt8)} (h : lineF st l = some st') : readF st i (l :: r) = readF st' (i + 1) r := by rw [readF, h]
theorem parse_ok {s : List UInt8} {st : PS} (hs : s.length ≤ 65536) (h : readF ps0 0 (linesL s) = (st, 0)) : parseF s = (st, 0, 0) := by
  unfold parseF; rw [if_neg (by omega), h]
theorem parse_bad {s : List UInt8} {k : Nat} (hs : s.length ≤ 65536) (h : readF ps0 0 (linesL s) = (ps0, k + 1)) : parseF s = (ps0, k + 1, 11) := by
  unfold parseF; rw [if_neg (by omega), h]
def zCfg : Array Value := #[.slice none 0 0, .slice none 0 0, .int .i64 0, .int .i64 0, .int .i64 0, .int .i64 0, .int .i64 0, .int .i64 0, .int .i64 0, .int .i64 0, .int .i64 0, .int .i64 0]
set_option maxRecDepth 100000 in
set_option maxHeartbeats 1600000 in
theorem parse_any (s : ByteArray) (w : World) (hs : s.size ≤ 300000) (hm : MaxL w) : Calls Tryd.prog 18 #[.string s] w (ParP w (parseF s.data.toList)) := by
  obtain ⟨d, hd⟩ : ∃ d, s.data.toList = d := ⟨_, rfl⟩
  have hds : d.length = s.size := by rw [← hd]; simp
  obtain ⟨z, hz⟩ : ∃ z, s.size = z := ⟨_, rfl⟩
  rw [hd]
  rw [hz] at hs hds
  have HD := Lib.hid hd
  have HDS := Lib.hid hds
  obtain ⟨w1, hw1⟩ : ∃ w1, w.alloc (.cells zCfg 30) = w1 := ⟨_, rfl⟩
  have hb1 : Below w.heap.size w w1 := hw1 ▸ below_one w _
  have hc1 : w1.heap[w.heap.size]? = some (.cells zCfg 30 (0, 0)) := by rw [← hw1]; exact heap_alloc_new w _
  have hs1 : w1.heap.size = w.heap.size + 1 := by rw [← hw1]; simp
  by_cases h6 : 65536 < z
  · have hpf : parseF d = (ps0, 0, 3) := by unfold parseF; rw [if_pos (by omega)]
    have HPF := Lib.hid hpf
    have d1 : decide ((z : Int) > 65536) = true := decide_eq_true (by omega)
    have d2 : decide (65536 < z) = true := decide_eq_true h6
    have B1 := Lib.hid hb1
    have C1 := Lib.hid hc1
    clear hd hds hpf h6 hb1 hc1 hs1
    unfold zCfg at hw1
    go_enter Tryd.func18, Tryd.ntmps18
    go_upto_region 1 with fail
    try rw [hw1]
    obtain ⟨q, hq⟩ : ∃ q, w.heap.size = q := ⟨_, rfl⟩
    try simp only [hq]
    have HQ := Lib.hid hq
    rw [hq] at C1
    clear hw1 hq
    go_wp2_with (first | (refine wpList_store_row rfl 30 (.tmp 2) (.tmp 12) rfl q #[.slice none 0 0, .slice none 0 0, .int .i64 0, .int .i64 0, .int .i64 0, .int .i64 0, .int .i64 0, .int .i64 0, .int .i64 0, .int .i64 0, .int .i64 0, .int .i64 0] rfl rfl 30 zCfg C1.out cfg_size rfl (by simp [Value.oneCell']) ?_) | fail)
    (try simp only [Exit.inBlock, Exit.then])
    refine bodyPost_ret (results_cell4 rfl _ _ q _ _ _ _ rfl rfl rfl rfl (run_loadVar_row _ q 30 30 #[.slice none 0 0, .slice none 0 0, .int .i64 0, .int .i64 0, .int .i64 0, .int .i64 0, .int .i64 0, .int .i64 0, .int .i64 0, .int .i64 0, .int .i64 0, .int .i64 0] (0, 0) _ (setRow_heap _ q _ _ _ _ C1.out) Tryd.underlying30 rfl cfg_size)) rfl ?_
    rw [HPF.out]
    exact ⟨none, none, none, 0, 0, 0, rfl, parsed_zero _ _, below_rowS B1.out (by rw [HQ.out]; exact Nat.le_refl _) _⟩
  · have d1 : decide ((z : Int) > 65536) = false := decide_eq_false (by omega)
    have d2 : decide (65536 < z) = false := decide_eq_false h6
    have B1 := Lib.hid hb1
    have C1 := Lib.hid hc1
    obtain ⟨w2, hw2⟩ : ∃ w2, w1.alloc (.cells zPar 77) = w2 := ⟨_, rfl⟩
    have hb2 : Below w1.heap.size w1 w2 := hw2 ▸ below_one w1 _
    have hc2 : w2.heap[w1.heap.size]? = some (.cells zPar 77 (0, 0)) := by rw [← hw2]; exact heap_alloc_new w1 _
    have hs2 : w2.heap.size = w1.heap.size + 1 := by rw [← hw2]; simp
    have HPY := Lib.hid (fun st h => parse_ok (s := d) (st := st) (by omega) h)
    have HPN := Lib.hid (fun k h => parse_bad (s := d) (k := k) (by omega) h)
    have CL := Lib.hid (fun w' (h : MaxL w') => lines_any s w' (by omega) h)
    rw [hd] at CL
    have B2 := Lib.hid (hb1.trans (hb2.mono hb1.size))
    have M2 := Lib.hid (hm.below (hb1.trans (hb2.mono hb1.size)) (Nat.le_refl _))
    have C2 := Lib.hid hc2
    have C1' := Lib.hid (show w2.heap[w.heap.size]? = some (.cells zCfg 30 (0, 0)) from by rw [hb2.block _ (by omega)]; exact hc1)
    have S1 := Lib.hid hs1; have S2 := Lib.hid hs2
    have HM := Lib.hid hm
    clear h6 hb1 hc1 hb2 hc2 hd hm hds
    unfold zCfg at hw1
    unfold zPar at hw2
    go_enter Tryd.func18, Tryd.ntmps18
    go_upto_region 4 with fail
    try rw [hw1]
    try rw [hw2]
    obtain ⟨q, hq⟩ : ∃ q, w.heap.size = q := ⟨_, rfl⟩
    have hq1 : w1.heap.size = q + 1 := by rw [← hq]; exact hs1
    try simp only [hq]
    have HQ := Lib.hid hq
    rw [hq] at C1'
    rw [hq1] at C2
    have S3 := Lib.hid (show w2.heap.size = q + 2 from by rw [hs2, hq1])
    clear hw1 hw2 hq hq1 hs1 hs2
    go_wp2_with fail
    refine (CL.out _ M2.out).mono ?_
    rintro e w3 ⟨la, ts, n, rfl, hT, hls, hB, hn, hlg⟩
    have hlb := linesL_le d
    have hn9 : n ≤ 300001 := by rw [hn]; have := HDS.out; omega
    obtain ⟨R, hRd⟩ : ∃ R, w3.heap.size = R := ⟨_, rfl⟩
    have hRq : q + 2 ≤ R := by rw [← hRd, ← S3.out]; exact hB.size
    have BW := Lib.hid (B2.out.trans (hB.mono B2.out.size))
    have C13 := Lib.hid (show w3.heap[q]? = some (.cells zCfg 30 (0, 0)) from by rw [hB.block q (by rw [S3.out]; omega)]; exact C1'.out)
    have P3 := Lib.hid (show PA w3 R (q + 1) ps0 from ⟨none, none, none, 0, 0, 0, by rw [hB.block (q + 1) (by rw [S3.out]; omega)]; exact C2.out, World.ownsRow_nil _ _ _ _, World.ownsRow_nil _ _ _ _, World.ownsRow_nil _ _ _ _, by omega, rfl, by decide⟩)
    have HT := Lib.hid (show ∀ wr, KP R (q + 1) w3 wr → HoldsT wr la n ts from fun wr hk => by
      rcases Nat.eq_zero_or_pos n with h0 | h0
      · exact ⟨hT.1, fun h => absurd h (by omega)⟩
      · obtain ⟨gb, go, hga, hgc⟩ := hT.at h0
        refine holds_kept hT fun g o hg => ?_
        have h1 := hlg g o hg
        rw [hga] at hg
        injection hg with hg
        injection hg with hg hg2
        have h2 := lt_of_cell (hgc 0 h0)
        rw [S3.out] at h1
        exact hk.mid g (by omega) (by rw [← hRd, ← hg]; exact h2))
    have HTS := Lib.hid (show ∀ i, i < n → ∃ t : Tx, ts.getD i ByteArray.empty = t ∧ t.size ≤ 300000 ∧ (linesL d).drop i = t.data.toList :: (linesL d).drop (i + 1) from fun i hi => by
      have hl : i < (linesL d).length := by omega
      have hl2 : i < ts.length := by rw [hT.len]; exact hi
      have h1 : ts[i].data.toList = (linesL d)[i] := by
        have h : (bytesL ts)[i]? = (linesL d)[i]? := by rw [hls]
        unfold bytesL at h
        rw [List.getElem?_map, List.getElem?_eq_getElem hl2, List.getElem?_eq_getElem hl] at h
        injection h
      refine ⟨ts[i], by rw [List.getD_eq_getElem?_getD, List.getElem?_eq_getElem hl2]; rfl, ?_, by rw [h1]; exact List.drop_eq_getElem_cons hl⟩
      have h2 := hlb.2 _ (List.getElem_mem hl)
      rw [← h1] at h2
      have h3 : ts[i].data.toList.length = ByteArray.size ts[i] := Array.length_toList
      have := HDS.out; omega)
    have HNL := Lib.hid hn
    have HRD := Lib.hid hRd
    clear hT hls hB hn hlg hlb hRd
    go_wp2_with fail
    go_loopw [16] (fun iv wr => ∃ (i : Nat) (st : PS), i ≤ n ∧ iv = .int .i64 i ∧ Hid (readF ps0 0 (linesL d) = readF st i ((linesL d).drop i)) ∧ Hid (PA wr R (q + 1) st) ∧ Hid (KP R (q + 1) w3 wr) ∧ Hid (st.ws.length ≤ i ∧ st.ks.length ≤ i ∧ st.es.length ≤ i)) (fun iv _ => n - (intOf iv).toNat)
    case atStart => exact ⟨0, ps0, by omega, rfl, Lib.hid rfl, P3, Lib.hid (KP.refl _ _ _), Lib.hid (by decide)⟩
    case round =>
      clear P3
      obtain ⟨i, st, hi, rfl, hF, hP, hK, hL⟩ := hrel
      have CQ := Lib.hid (show wr.heap[q]? = some (.cells zCfg 30 (0, 0)) from by rw [hK.out.bel.block q (by omega)]; exact C13.out)
      have BR := Lib.hid (BW.out.trans (hK.out.bel.mono (by rw [HQ.out]; omega)))
      by_cases hlt : i < n
      · obtain ⟨t, ht, hts, hdr⟩ := HTS.out i hlt
        obtain ⟨lb, lo, rfl, hcc⟩ := (HT.out wr hK.out).at (by omega)
        have x0 := hcc i hlt
        rw [ht] at x0
        obtain ⟨o, ho⟩ : ∃ o, lineF st t.data.toList = o := ⟨_, rfl⟩
        have hR : R ≤ wr.heap.size := by rw [← HRD.out]; exact hK.out.bel.size
        have LI := Lib.hid (line_any R (q + 1) st t wr hP.out hR hts (HM.out.below BR.out (Nat.le_refl _)) (by have := hL.out; omega) (by have := hL.out; omega) (by have := hL.out; omega))
        rw [ho] at LI
        have hF2 := hF.out
        rw [hdr] at hF2
        have n2 : (i : Int) < (n : Int) := by omega
        cases o with
        | none =>
          rw [readF_no ho] at hF2
          have HE := Lib.hid (HPN.out i hF2)
          clear ht hdr hcc ho hF hF2 hP hL hR
          go_wp2_with fail
          refine LI.out.mono ?_
          intro e w5 h5
          have he := h5.ret
          subst he
          have C5 := Lib.hid (show w5.heap[q]? = some (.cells zCfg 30 (0, 0)) from by rw [h5.1.bel.block q (by omega)]; exact CQ.out)
          have B5 := Lib.hid (BR.out.trans (h5.1.bel.mono (by rw [HQ.out]; omega)))
          have g1 : IntKind.i64.wrap ((i : Int) + 1) = ((i + 1 : Nat) : Int) := by rw [IntWalk.i64_in _ (by omega)]; omega
          clear h5
          go_wp2_with (first | (refine wpList_store_row rfl 30 (.tmp 2) (.tmp 24) rfl q #[.slice none 0 0, .slice none 0 0, .int .i64 0, .int .i64 0, .int .i64 0, .int .i64 0, .int .i64 0, .int .i64 0, .int .i64 0, .int .i64 0, .int .i64 0, .int .i64 0] rfl rfl 30 zCfg C5.out cfg_size rfl (by simp [Value.oneCell']) ?_) | fail)
          (try simp only [Exit.inBlock, Exit.then])
          refine bodyPost_ret (results_cell4 rfl _ _ q _ _ _ _ rfl rfl rfl rfl (run_loadVar_row _ q 30 30 #[.slice none 0 0, .slice none 0 0, .int .i64 0, .int .i64 0, .int .i64 0, .int .i64 0, .int .i64 0, .int .i64 0, .int .i64 0, .int .i64 0, .int .i64 0, .int .i64 0] (0, 0) _ (setRow_heap _ q _ _ _ _ C5.out) Tryd.underlying30 rfl cfg_size)) rfl ?_
          rw [HE.out]
          exact ⟨none, none, none, 0, 0, 0, rfl, parsed_zero _ _, below_rowS B5.out (by rw [HQ.out]; exact Nat.le_refl _) _⟩
        | some st2 =>
          have hg := lineF_grow ho
          have L2 := Lib.hid (show st2.ws.length ≤ i + 1 ∧ st2.ks.length ≤ i + 1 ∧ st2.es.length ≤ i + 1 from by have := hL.out; omega)
          rw [readF_yes ho] at hF2
          have F2 := Lib.hid hF2
          clear ht hdr hcc ho hF hF2 hP hL hR hg
          go_wp2_with fail
          refine LI.out.mono ?_
          intro e w5 h5
          have he := h5.ret
          subst he
          have K5 := Lib.hid (hK.out.trans h5.1)
          have P5 := Lib.hid h5.2.2
          clear h5
          go_wp2_with fail
          go_roundw
          case rel => exact ⟨i + 1, st2, by omega, by go_num, F2, P5, K5, L2⟩
          case measure => simp [intOf] <;> omega
      · obtain rfl : i = n := by omega
        have hF2 := hF.out
        rw [List.drop_eq_nil_of_le (by rw [← HNL.out]; exact Nat.le_refl _)] at hF2
        have HE := Lib.hid (HPY.out st hF2)
        obtain ⟨wa, ka, ea, wc, kc, ec, hq⟩ := hP.out
        have HPP := Lib.hid hq
        clear hF hF2 hP hq
        go_upto_region 10 with fail
        have KX := Lib.hid (fun (w' : World) (h : w'.heap[q + 1]? = wr.heap[q + 1]?) => (show w'.cell? ⟨q + 1, 0, none⟩ = some (.slice wa st.ws.length wc) ∧ w'.cell? ⟨q + 1, 1, none⟩ = some (.slice ka st.ks.length kc) ∧ w'.cell? ⟨q + 1, 2, none⟩ = some (.int .i64 (st.ns.getD 0 0)) ∧ w'.cell? ⟨q + 1, 3, none⟩ = some (.int .i64 (st.ns.getD 1 0)) ∧ w'.cell? ⟨q + 1, 4, none⟩ = some (.int .i64 (st.ns.getD 2 0)) ∧ w'.cell? ⟨q + 1, 5, none⟩ = some (.int .i64 (st.ns.getD 3 0)) ∧ w'.cell? ⟨q + 1, 6, none⟩ = some (.int .i64 (st.ns.getD 4 0)) ∧ w'.cell? ⟨q + 1, 7, none⟩ = some (.int .i64 (st.ns.getD 5 0)) ∧ w'.cell? ⟨q + 1, 8, none⟩ = some (.int .i64 (st.ns.getD 6 0)) ∧ w'.cell? ⟨q + 1, 9, none⟩ = some (.int .i64 (st.ns.getD 7 0)) ∧ w'.cell? ⟨q + 1, 10, none⟩ = some (.int .i64 (st.ns.getD 8 0)) ∧ w'.cell? ⟨q + 1, 11, none⟩ = some (.int .i64 (st.ns.getD 9 0)) ∧ w'.cell? ⟨q + 1, 12, none⟩ = some (.slice ea st.es.length ec) from by
          have h2 := h.trans HPP.out.blk
          refine ⟨?_, ?_, ?_, ?_, ?_, ?_, ?_, ?_, ?_, ?_, ?_, ?_, ?_⟩ <;> (rw [Lib.cell_of_heap h2]; rfl)))
        have hS0 := KX.out wr.drew rfl
        refine wp_region_held_drew (S := (fun w' => w'.cell? ⟨q + 1, 0, none⟩ = some (.slice wa st.ws.length wc) ∧ w'.cell? ⟨q + 1, 1, none⟩ = some (.slice ka st.ks.length kc) ∧ w'.cell? ⟨q + 1, 2, none⟩ = some (.int .i64 (st.ns.getD 0 0)) ∧ w'.cell? ⟨q + 1, 3, none⟩ = some (.int .i64 (st.ns.getD 1 0)) ∧ w'.cell? ⟨q + 1, 4, none⟩ = some (.int .i64 (st.ns.getD 2 0)) ∧ w'.cell? ⟨q + 1, 5, none⟩ = some (.int .i64 (st.ns.getD 3 0)) ∧ w'.cell? ⟨q + 1, 6, none⟩ = some (.int .i64 (st.ns.getD 4 0)) ∧ w'.cell? ⟨q + 1, 7, none⟩ = some (.int .i64 (st.ns.getD 5 0)) ∧ w'.cell? ⟨q + 1, 8, none⟩ = some (.int .i64 (st.ns.getD 6 0)) ∧ w'.cell? ⟨q + 1, 9, none⟩ = some (.int .i64 (st.ns.getD 7 0)) ∧ w'.cell? ⟨q + 1, 10, none⟩ = some (.int .i64 (st.ns.getD 8 0)) ∧ w'.cell? ⟨q + 1, 11, none⟩ = some (.int .i64 (st.ns.getD 9 0)) ∧ w'.cell? ⟨q + 1, 12, none⟩ = some (.slice ea st.es.length ec))) (by kernel_rfl) hS0 (fun hHeld0 => ?_)
        clear hS0
        have CQ0 := Lib.hid (show wr.drew.heap[q]? = _ from CQ.out)
        have BR0 := Lib.hid (show Below w.heap.size w wr.drew from BR.out.drew)
        have HP0 := Lib.hid (show ParAt wr.drew R (q + 1) wa ka ea wc kc ec st from HPP.out.below (Below.refl _ _).drew)
        have KX0 := Lib.hid (show ∀ cs, (wr.drew.setRow q cs).heap[q + 1]? = wr.heap[q + 1]? from fun cs => setRow_other wr.drew q (q + 1) cs (by omega))
        generalize wr.drew = X0 at *
        refine wpAnyH_take (i := 0) (oi := { dst := some 28, op := Op.fieldAddr 77 (Operand.tmp 6) 0, type := 0, pos := "script.go:51", after := #[], guard := none }) (v := ?vz1) rfl (by kernel_rfl) (by kernel_rfl) (by kernel_rfl) (fun _ _ _ h => h) (Or.inl ⟨by rfl, ?hyz1⟩) (by assumption) ?restz1
        case hyz1 => (intro w hSw; (try dsimp only at hSw); go_simp; (try with_reducible rfl))
        try simp only [Act.put, List.setIfInBounds_toArray, List.set_cons_zero, List.set_cons_succ]
        refine wpAnyH_take (i := 1) (oi := { dst := some 29, op := Op.load 30 (Operand.tmp 28), type := 30, pos := "script.go:51", after := #[{ on := 0, ground := Ground.data }], guard := none }) (v := ?vz2) rfl (by kernel_rfl) (by kernel_rfl) (by kernel_rfl) (fun _ _ _ h => h) (Or.inl ⟨by rfl, ?hyz2⟩) (by assumption) ?restz2
        case hyz2 => (intro w hSw; (try dsimp only at hSw); go_simp; (try with_reducible rfl))
        try simp only [Act.put, List.setIfInBounds_toArray, List.set_cons_zero, List.set_cons_succ]
        refine wpAnyH_take (i := 2) (oi := { dst := some 30, op := Op.fieldAddr 77 (Operand.tmp 6) 1, type := 0, pos := "script.go:51", after := #[{ on := 4, ground := Ground.gcOnly Departure.lateStores }], guard := none }) (v := ?vz3) rfl (by kernel_rfl) (by kernel_rfl) (by kernel_rfl) (fun _ _ _ h => h) (Or.inl ⟨by rfl, ?hyz3⟩) (by assumption) ?restz3
        case hyz3 => (intro w hSw; (try dsimp only at hSw); go_simp; (try with_reducible rfl))
        try simp only [Act.put, List.setIfInBounds_toArray, List.set_cons_zero, List.set_cons_succ]
        refine wpAnyH_take (i := 3) (oi := { dst := some 31, op := Op.load 31 (Operand.tmp 30), type := 31, pos := "script.go:51", after := #[{ on := 2, ground := Ground.data }, { on := 4, ground := Ground.gcOnly Departure.lateStores }], guard := none }) (v := ?vz4) rfl (by kernel_rfl) (by kernel_rfl) (by kernel_rfl) (fun _ _ _ h => h) (Or.inl ⟨by rfl, ?hyz4⟩) (by assumption) ?restz4
        case hyz4 => (intro w hSw; (try dsimp only at hSw); go_simp; (try with_reducible rfl))
        try simp only [Act.put, List.setIfInBounds_toArray, List.set_cons_zero, List.set_cons_succ]
        refine wpAnyH_ready (rs := [4]) (by kernel_rfl) (by simp) ?_
        refine AllReadyH.cons (o := { dst := none, op := Op.store 30 (Operand.tmp 2) (Operand.tmp 29), type := 0, pos := "script.go:51", after := #[{ on := 1, ground := Ground.data }, { on := 0, ground := Ground.phase }, { on := 1, ground := Ground.phase }, { on := 2, ground := Ground.textOnly Departure.lateStores }, { on := 3, ground := Ground.textOnly Departure.lateStores }], guard := none }) rfl (fun K hK => ?_) AllReadyH.nil
        · rw [if_pos (by rfl)]
          refine wp_store_row 30 _ _ rfl q #[.slice wa st.ws.length wc, .slice ka st.ks.length kc, .int .i64 (st.ns.getD 0 0), .int .i64 (st.ns.getD 1 0), .int .i64 (st.ns.getD 2 0), .int .i64 (st.ns.getD 3 0), .int .i64 (st.ns.getD 4 0), .int .i64 (st.ns.getD 5 0), .int .i64 (st.ns.getD 6 0), .int .i64 (st.ns.getD 7 0), .int .i64 (st.ns.getD 8 0), .int .i64 (st.ns.getD 9 0)] (by rfl) (by rfl) 30 zCfg CQ0.out cfg_size rfl (by simp [Value.oneCell']) ?_
          refine hK.out _ _ (KX.out _ (KX0.out _)) (fun hHeldE => ?_)
          clear hK K hHeld0
          try simp only [Act.put]
          refine wpAnyH_take (i := 5) (oi := { dst := some 3, op := Op.assign (Operand.tmp 31), type := 31, pos := "script.go:51", after := #[{ on := 3, ground := Ground.data }, { on := 4, ground := Ground.chain }, { on := 0, ground := Ground.phase }, { on := 1, ground := Ground.phase }, { on := 2, ground := Ground.phase }, { on := 3, ground := Ground.phase }, { on := 4, ground := Ground.phase }], guard := none }) (v := ?vz5) rfl (by kernel_rfl) (by kernel_rfl) (by kernel_rfl) (fun _ _ _ h => h) (Or.inl ⟨by rfl, ?hyz5⟩) (by assumption) ?restz5
          case hyz5 => (intro w hSw; (try dsimp only at hSw); go_simp; (try with_reducible rfl))
          try simp only [Act.put, List.setIfInBounds_toArray, List.set_cons_zero, List.set_cons_succ]
          refine wpAnyH_take (i := 6) (oi := { dst := some 4, op := Op.assign (Operand.const (Value.int IntKind.i64 0)), type := 3, pos := "script.go:51", after := #[{ on := 5, ground := Ground.chain }, { on := 0, ground := Ground.phase }, { on := 1, ground := Ground.phase }, { on := 2, ground := Ground.phase }, { on := 3, ground := Ground.phase }, { on := 4, ground := Ground.phase }, { on := 5, ground := Ground.phase }], guard := none }) (v := ?vz6) rfl (by kernel_rfl) (by kernel_rfl) (by kernel_rfl) (fun _ _ _ h => h) (Or.inl ⟨by rfl, ?hyz6⟩) (by assumption) ?restz6
          case hyz6 => (intro w hSw; (try dsimp only at hSw); go_simp; (try with_reducible rfl))
          try simp only [Act.put, List.setIfInBounds_toArray, List.set_cons_zero, List.set_cons_succ]
          refine wpAnyH_take (i := 7) (oi := { dst := some 5, op := Op.assign (Operand.const (Value.int IntKind.i64 0)), type := 34, pos := "script.go:51", after := #[{ on := 6, ground := Ground.chain }, { on := 0, ground := Ground.phase }, { on := 1, ground := Ground.phase }, { on := 2, ground := Ground.phase }, { on := 3, ground := Ground.phase }, { on := 4, ground := Ground.phase }, { on := 5, ground := Ground.phase }, { on := 6, ground := Ground.phase }], guard := none }) (v := ?vz7) rfl (by kernel_rfl) (by kernel_rfl) (by kernel_rfl) (fun _ _ _ h => h) (Or.inl ⟨by rfl, ?hyz7⟩) (by assumption) ?restz7
          case hyz7 => (intro w hSw; (try dsimp only at hSw); go_simp; (try with_reducible rfl))
          try simp only [Act.put, List.setIfInBounds_toArray, List.set_cons_zero, List.set_cons_succ]
          refine wpAnyH_done (by kernel_rfl) ?_ _
          go_wp2_with fail
          (try simp only [Exit.then])
          refine bodyPost_ret (results_cell4 rfl _ _ q _ _ _ _ rfl rfl rfl rfl (run_loadVar_row _ q 30 30 #[.slice wa st.ws.length wc, .slice ka st.ks.length kc, .int .i64 (st.ns.getD 0 0), .int .i64 (st.ns.getD 1 0), .int .i64 (st.ns.getD 2 0), .int .i64 (st.ns.getD 3 0), .int .i64 (st.ns.getD 4 0), .int .i64 (st.ns.getD 5 0), .int .i64 (st.ns.getD 6 0), .int .i64 (st.ns.getD 7 0), .int .i64 (st.ns.getD 8 0), .int .i64 (st.ns.getD 9 0)] (0, 0) _ (setRow_heap _ q _ _ _ _ CQ0.out) Tryd.underlying30 rfl cfg_size)) rfl ?_
          rw [HE.out]
          exact ⟨wa, ka, ea, wc, kc, ec, rfl, HP0.out.parsed (grown_rowS _ q _) (by omega) (by rw [HQ.out]; omega), below_rowS BR0.out (by rw [HQ.out]; exact Nat.le_refl _) _⟩
end Go.Proofs.YtmddnklafplikaaDoor
namespace Go.Proofs.YtmddnklafplikaaDoor
open Go.RowKit
set_option linter.unusedVariables false
set_option maxRecDepth 20000
theorem ssEvents (x : ByteArray) : (x.toList == x.toList) = true := by simp
set_option maxHeartbeats 1600000 in
theorem sameEvents_quiet (a1 a2 : Option Addr) (n c1 c2 : Nat) (z : List EvP) (w : World) (h1 : HoldsEv w a1 n z) (h2 : HoldsEv w a2 n z) (hl : n ≤ 4611686018427387904) :
    Calls Tryd.prog 20 #[.slice a1 n c1, .slice a2 n c2] w fun e w' => e = .returned (.bool true) ∧ ∃ m, w' = w.drewN m := by
  have H1 := Lib.hid h1; have H2 := Lib.hid h2
  have hb : ((n : Int) != (n : Int)) = false := by simp
  clear h1 h2
  go_enter Tryd.func20, Tryd.ntmps20
  go_wp2
  go_loopw [5] (fun i wr => ∃ k m : Nat, k ≤ n ∧ i = .int .i64 k ∧ wr = w.drewN m) (fun i _ => n - (intOf i).toNat)
  case atStart => exact ⟨0, 0, by omega, rfl, rfl⟩
  case round =>
    obtain ⟨k, m, hk, rfl, rfl⟩ := hrel
    by_cases hlt : k < n
    · obtain ⟨b1, o1, rfl, k1⟩ := H1.out.at (by omega)
      obtain ⟨b2, o2, rfl, k2⟩ := H2.out.at (by omega)
      obtain ⟨e0, e1, e2, e3, e4, e5, e6⟩ := k1 k hlt
      obtain ⟨g0, g1, g2, g3, g4, g5, g6⟩ := k2 k hlt
      obtain ⟨x, hx⟩ : ∃ x, z.getD k ev0 = x := ⟨_, rfl⟩
      rw [hx] at e0 e1 e2 e3 e4 e5 e6 g0 g1 g2 g3 g4 g5 g6
      obtain ⟨x1, x2, x3, x4, x5, x6, x7⟩ := x
      simp only at e0 e1 e2 e3 e4 e5 e6 g0 g1 g2 g3 g4 g5 g6
      have f0 : (x1 == x1) = true := by simp
      have f1 : (x2 == x2) = true := by simp
      have f2 : (x3 == x3) = true := by simp
      have f3 : (x4 == x4) = true := by simp
      have f4 := ssEvents x5
      have f5 : (x6 == x6) = true := by simp
      have f6 : (x7 == x7) = true := by simp
      clear hx k1 k2
      go_wp2
      go_quiet (fail)
      go_wp2
      go_roundw
      case rel => exact ⟨k + 1, _, by omega, by go_num, rfl⟩
      case measure => simp [intOf]; omega
    · go_wp2
      go_ret
      exact ⟨rfl, _, rfl⟩
theorem sameEvents_yes (a1 a2 : Option Addr) (n c1 c2 : Nat) (z : List EvP) (w : World) (h1 : HoldsEv w a1 n z) (h2 : HoldsEv w a2 n z) (hl : n ≤ 4611686018427387904) :
    Calls Tryd.prog 20 #[.slice a1 n c1, .slice a2 n c2] w fun e w' => e = .returned (.bool true) ∧ Below w.heap.size w w' :=
  (sameEvents_quiet a1 a2 n c1 c2 z w h1 h2 hl).mono fun _ _ ⟨h, m, hm⟩ => ⟨h, by rw [hm]; exact below_drewN _ _⟩
end Go.Proofs.YtmddnklafplikaaDoor
namespace Go.Proofs.YtmddnklafplikaaDoor
open Go.RowKit
set_option linter.unusedVariables false
set_option maxRecDepth 20000
def ab29 : Tx := { data := #[97, 98] }
def a29 : Tx := { data := #[97] }
def e0_29 : Tx := { data := #[] }
def lit1 : ByteArray := { data := #[119, 111, 114, 100, 32, 34, 97, 98, 34, 10, 99, 117, 116, 32, 50, 32, 34, 34, 10, 101, 118, 32, 52, 32, 49, 32, 48, 32, 48, 10, 97, 115, 107, 32, 34, 97, 34, 32, 49, 32, 50, 10] }
def lit2 : ByteArray := { data := #[119, 111, 114, 100, 32, 34, 97, 98, 34, 10, 101, 118, 32, 49, 32, 48, 32, 48, 32, 48] }
def st29 : PS := ⟨[ab29], [(2, e0_29)], [0, 0, 0, 0, 0, 0, 0, 0, 0, 0], [⟨4, 1, 0, 0, e0_29, 0, 0⟩, ⟨1, 0, 0, 0, a29, 1, 2⟩]⟩
theorem dec1 (i : Nat) (h : i < 10) : decI (i : Int) = [UInt8.ofNat (48 + i)] := by unfold decI; rw [Int.toNat_natCast]; exact Lib.decDigits_one h
theorem d0 : decI 0 = [48] := dec1 0 (by omega)
theorem d1 : decI 1 = [49] := dec1 1 (by omega)
theorem d2 : decI 2 = [50] := dec1 2 (by omega)
theorem d4 : decI 4 = [52] := dec1 4 (by omega)
theorem ln1 (st : PS) : lineF st [119, 111, 114, 100, 32, 34, 97, 98, 34] = some { st with ws := st.ws ++ [ab29] } := by
  have h := line_word st ab29
  rwa [show lineB (wordQ ab29) = [119, 111, 114, 100, 32, 34, 97, 98, 34] from by decide] at h
theorem ln2 (st : PS) : lineF st [99, 117, 116, 32, 50, 32, 34, 34] = some { st with ks := st.ks ++ [(2, e0_29)] } := by
  have h := line_cut st (2, e0_29) (by decide)
  rwa [show lineB (cutQ (2, e0_29)) = [99, 117, 116, 32, 50, 32, 34, 34] from by unfold lineB cutQ; simp only [d2]; decide] at h
theorem ln3 (st : PS) : lineF st [101, 118, 32, 52, 32, 49, 32, 48, 32, 48] = some { st with es := st.es ++ [⟨4, 1, 0, 0, e0_29, 0, 0⟩] } := by
  have h := line_ev st ⟨4, 1, 0, 0, e0_29, 0, 0⟩ (by decide)
  rwa [show lineB (evQ ⟨4, 1, 0, 0, e0_29, 0, 0⟩) = [101, 118, 32, 52, 32, 49, 32, 48, 32, 48] from by unfold lineB evQ nosEv; rw [if_neg (by decide)]; simp only [List.map_cons, List.map_nil, d0, d1, d4]; decide] at h
theorem ln4 (st : PS) : lineF st [97, 115, 107, 32, 34, 97, 34, 32, 49, 32, 50] = some { st with es := st.es ++ [⟨1, 0, 0, 0, a29, 1, 2⟩] } := by
  have h := line_ev st ⟨1, 0, 0, 0, a29, 1, 2⟩ (by decide)
  rwa [show lineB (evQ ⟨1, 0, 0, 0, a29, 1, 2⟩) = [97, 115, 107, 32, 34, 97, 34, 32, 49, 32, 50] from by unfold lineB evQ; rw [if_pos rfl]; simp only [d1, d2]; decide] at h
theorem ln5 (st : PS) : lineF st [101, 118, 32, 49, 32, 48, 32, 48, 32, 48] = none := by
  have ok : partOk (evB :: [1, 0, 0, 0].map decI) := ⟨by simp, fun p hp => by
    rcases List.mem_cons.1 hp with rfl | hp
    · decide
    · exact decs_ok [1, 0, 0, 0] p hp⟩
  have h := lineF_parts st evB ([1, 0, 0, 0].map decI) ok
  rw [show lineB (evB :: [1, 0, 0, 0].map decI) = [101, 118, 32, 49, 32, 48, 32, 48, 32, 48] from by unfold lineB; simp only [List.map_cons, List.map_nil, d0, d1]; decide] at h
  rw [h]
  unfold partsF
  rw [if_neg (by decide), if_neg (by decide), if_neg (by decide), if_pos rfl]
  unfold evF numsK
  rw [if_pos (by simp), numsO_dec [1, 0, 0, 0] (by decide)]
  rfl
theorem parse1 : parseF lit1.data.toList = (st29, 0, 0) := by
  refine parse_ok (by decide) ?_
  rw [show linesL lit1.data.toList = [[119, 111, 114, 100, 32, 34, 97, 98, 34], [99, 117, 116, 32, 50, 32, 34, 34], [101, 118, 32, 52, 32, 49, 32, 48, 32, 48], [97, 115, 107, 32, 34, 97, 34, 32, 49, 32, 50]] from by decide]
  rw [readF_yes (ln1 _), readF_yes (ln2 _), readF_yes (ln3 _), readF_yes (ln4 _)]
  rfl
theorem parse2 : parseF lit2.data.toList = (ps0, 2, 11) := by
  refine parse_bad (by decide) ?_
  rw [show linesL lit2.data.toList = [[119, 111, 114, 100, 32, 34, 97, 98, 34], [101, 118, 32, 49, 32, 48, 32, 48, 32, 48]] from by decide]
  rw [readF_yes (ln1 _), readF_no (ln5 _)]
theorem quote_ab : quoS { data := #[97, 32, 98] } = { data := #[34, 97, 92, 50, 48, 98, 34] } := by
  apply ByteArray.ext; apply Array.toList_inj.1
  show quoL [97, 32, 98] = _
  decide
theorem parP1 {w w' : World} {e : Ending} (h : ParP w (st29, 0, 0) e w') : ∃ wa ka ea wc kc ec, e = .returned (.tuple #[.agg #[.slice wa 1 wc, .slice ka 1 kc, .int .i64 0, .int .i64 0, .int .i64 0, .int .i64 0, .int .i64 0, .int .i64 0, .int .i64 0, .int .i64 0, .int .i64 0, .int .i64 0], .slice ea 2 ec, .int .i64 0, .int .i64 0]) ∧ HoldsT w' wa 1 [ab29] ∧ HoldsEv w' ea 2 [⟨4, 1, 0, 0, e0_29, 0, 0⟩, ⟨1, 0, 0, 0, a29, 1, 2⟩] ∧ Below w.heap.size w w' := by
  obtain ⟨wa, ka, ea, wc, kc, ec, he, hp, hb⟩ := h
  exact ⟨wa, ka, ea, wc, kc, ec, he, HoldsT.own hp.rw, HoldsEv.own hp.re, hb⟩
theorem parP2 {w w' : World} {e : Ending} (h : ParP w (ps0, 2, 11) e w') : ∃ wa ka ea wc kc ec, e = .returned (.tuple #[.agg #[.slice wa 0 wc, .slice ka 0 kc, .int .i64 0, .int .i64 0, .int .i64 0, .int .i64 0, .int .i64 0, .int .i64 0, .int .i64 0, .int .i64 0, .int .i64 0, .int .i64 0], .slice ea 0 ec, .int .i64 2, .int .i64 11]) ∧ Below w.heap.size w w' := by
  obtain ⟨wa, ka, ea, wc, kc, ec, he, hp, hb⟩ := h
  exact ⟨wa, ka, ea, wc, kc, ec, he, hb⟩
theorem holdsT_one (w : World) (t : Tx) (e : TypeId) (fr : Nat × Nat) : HoldsT (w.alloc (.cells #[.string t] e fr)) (some ⟨w.heap.size, 0, none⟩) 1 [t] := HoldsT.of rfl fun i hi => by
  obtain rfl : i = 0 := by omega
  rw [World.cell?_alloc_mark]; rfl
theorem holdsEv_two (w : World) (e : TypeId) (fr : Nat × Nat) : HoldsEv (w.alloc (.cells #[.int .i64 4, .int .i64 1, .int .i64 0, .int .i64 0, .string { data := #[] }, .int .i64 0, .int .i64 0, .int .i64 1, .int .i64 0, .int .i64 0, .int .i64 0, .string { data := #[97] }, .int .i64 1, .int .i64 2] e fr)) (some ⟨w.heap.size, 0, none⟩) 2 [⟨4, 1, 0, 0, e0_29, 0, 0⟩, ⟨1, 0, 0, 0, a29, 1, 2⟩] := by
  refine ⟨rfl, fun _ => ⟨_, 0, rfl, fun i hi => ?_⟩⟩
  simp only [World.cell?_alloc_mark]
  match i, hi with
  | 0, _ => exact ⟨rfl, rfl, rfl, rfl, rfl, rfl, rfl⟩
  | 1, _ => exact ⟨rfl, rfl, rfl, rfl, rfl, rfl, rfl⟩
set_option maxRecDepth 100000 in
set_option maxHeartbeats 1600000 in
theorem awake29_any (w : World) (hm : MaxL w) : Calls Tryd.prog 8 #[] w fun e w' => e = .returned (.bool true) ∧ Below w.heap.size w w' := by
  have C1 := Lib.hid (fun w' (h : MaxL w') => parse_any lit1 w' (by decide) h)
  have C2 := Lib.hid (fun w' (h : MaxL w') => parse_any lit2 w' (by decide) h)
  rw [parse1] at C1
  rw [parse2] at C2
  have CQ := Lib.hid (fun w => quote_any { data := #[97, 32, 98] } w (by decide))
  rw [quote_ab] at CQ
  have HM := Lib.hid hm
  unfold lit1 at C1
  unfold lit2 at C2
  clear hm
  go_enter Tryd.func8, Tryd.ntmps8
  go_wp2_with fail
  refine (C1.out _ HM.out).mono ?_
  intro e w1 h1
  obtain ⟨wa, ka, ea, wc, kc, ec, rfl, hT, hE, hb1⟩ := parP1 h1
  have B1 := Lib.hid hb1
  have M1 := Lib.hid (HM.out.below hb1 (Nat.le_refl _))
  have HT := Lib.hid hT; have HE := Lib.hid hE
  clear h1 hb1 hT hE
  go_upto_region 2 with fail
  have A2 := Lib.hid (below_one w1 (.cells #[.slice wa 1 wc, .slice ka 1 kc, .int .i64 0, .int .i64 0, .int .i64 0, .int .i64 0, .int .i64 0, .int .i64 0, .int .i64 0, .int .i64 0, .int .i64 0, .int .i64 0] 30))
  have c0 : (w1.alloc (.cells #[.slice wa 1 wc, .slice ka 1 kc, .int .i64 0, .int .i64 0, .int .i64 0, .int .i64 0, .int .i64 0, .int .i64 0, .int .i64 0, .int .i64 0, .int .i64 0, .int .i64 0] 30)).cell? ⟨w1.heap.size, 0, none⟩ = some (.slice wa 1 wc) := by rw [World.cell?_alloc_mark]; rfl
  obtain ⟨q, hq⟩ : ∃ q, w1.heap.size = q := ⟨_, rfl⟩
  generalize w1.alloc (.cells #[.slice wa 1 wc, .slice ka 1 kc, .int .i64 0, .int .i64 0, .int .i64 0, .int .i64 0, .int .i64 0, .int .i64 0, .int .i64 0, .int .i64 0, .int .i64 0, .int .i64 0] 30) = w2 at *
  have B2 := Lib.hid (B1.out.trans (A2.out.mono B1.out.size))
  have HT2 := Lib.hid (HT.out.below A2.out)
  have HE2 := Lib.hid (HE.out.below A2.out)
  have M2 := Lib.hid (M1.out.below A2.out (Nat.le_refl _))
  rw [hq] at c0 ⊢
  clear HT HE M1 B1 A2 hq
  go_wp2_with fail
  refine (C2.out _ M2.out).mono ?_
  intro e w3 h3
  obtain ⟨va, la, fa, vc, lc, fc, rfl, hb3⟩ := parP2 h3
  have c1 := (hb3.cell (p := ⟨q, 0, none⟩) (lt_of_cell c0)).trans c0
  have B3 := Lib.hid (B2.out.trans (hb3.mono B2.out.size))
  have HT3 := Lib.hid (HT2.out.below hb3)
  have HE3 := Lib.hid (HE2.out.below hb3)
  clear h3 hb3 c0 HT2 HE2 M2 B2
  go_upto_region 3 with fail
  have A4 := Lib.hid (below_one w3 (.cells #[.slice va 0 vc, .slice la 0 lc, .int .i64 0, .int .i64 0, .int .i64 0, .int .i64 0, .int .i64 0, .int .i64 0, .int .i64 0, .int .i64 0, .int .i64 0, .int .i64 0] 30))
  obtain ⟨q3, hq3⟩ : ∃ q, w3.heap.size = q := ⟨_, rfl⟩
  generalize w3.alloc (.cells #[.slice va 0 vc, .slice la 0 lc, .int .i64 0, .int .i64 0, .int .i64 0, .int .i64 0, .int .i64 0, .int .i64 0, .int .i64 0, .int .i64 0, .int .i64 0, .int .i64 0] 30) = w4 at *
  have c2 := (A4.out.cell (p := ⟨q, 0, none⟩) (lt_of_cell c1)).trans c1
  have B4 := Lib.hid (B3.out.trans (A4.out.mono B3.out.size))
  have HT4 := Lib.hid (HT3.out.below A4.out)
  have HE4 := Lib.hid (HE3.out.below A4.out)
  rw [hq3]
  clear c1 HT3 HE3 B3 A4 hq3
  have CT := Lib.hid (sameTexts_yes wa (some ⟨w4.heap.size, 0, none⟩) 1 wc 1 [ab29] _ (HT4.out.below (below_one w4 (.cells #[.string ab29] 9))) (holdsT_one w4 ab29 9 (0, 0)) (by omega))
  unfold ab29 at CT
  go_wp2_with fail
  refine CT.out.mono ?_
  rintro e w5 ⟨rfl, hb5⟩
  have B5 := Lib.hid ((B4.out.trans ((below_one w4 _).mono B4.out.size)).trans (hb5.mono (Nat.le_trans B4.out.size (below_one w4 _).size)))
  have HE5 := Lib.hid ((HE4.out.below (below_one w4 _)).below hb5)
  clear hb5 CT HT4 HE4 c2
  have CE := Lib.hid (sameEvents_yes ea (some ⟨w5.heap.size, 0, none⟩) 2 ec 2 _ _ (HE5.out.below (below_one w5 (.cells #[.int .i64 4, .int .i64 1, .int .i64 0, .int .i64 0, .string { data := #[] }, .int .i64 0, .int .i64 0, .int .i64 1, .int .i64 0, .int .i64 0, .int .i64 0, .string { data := #[97] }, .int .i64 1, .int .i64 2] 50))) (holdsEv_two w5 50 (0, 0)) (by omega))
  go_wp2_with fail
  refine CE.out.mono ?_
  rintro e w6 ⟨rfl, hb6⟩
  have B6 := Lib.hid ((B5.out.trans ((below_one w5 _).mono B5.out.size)).trans (hb6.mono (Nat.le_trans B5.out.size (below_one w5 _).size)))
  clear hb6 CE HE5
  go_wp2_with fail
  refine (CQ.out _).mono ?_
  rintro e w7 ⟨rfl, hb7⟩
  have B7 := Lib.hid (B6.out.trans (hb7.mono B6.out.size))
  clear hb7
  go_wp2_with fail
  go_ret
  exact ⟨rfl, B7.out⟩
end Go.Proofs.YtmddnklafplikaaDoor
namespace Go.Proofs.YtmddnklafplikaaDoor
open Go.RowKit
set_option linter.unusedVariables false
set_option maxRecDepth 20000
set_option maxHeartbeats 400000 in
theorem sameKeys_quiet (a1 a2 : Option Addr) (n c1 c2 : Nat) (z : List KV) (w : World) (h1 : HoldsK w a1 n z) (h2 : HoldsK w a2 n z) (hl : n ≤ 4611686018427387904) :
    Calls Tryd.prog 37 #[.slice a1 n c1, .slice a2 n c2] w fun e w' => e = .returned (.bool true) ∧ ∃ m, w' = w.drewN m := by
  have H1 := Lib.hid h1; have H2 := Lib.hid h2
  have hb : ((n : Int) != (n : Int)) = false := by simp
  clear h1 h2
  go_enter Tryd.func37, Tryd.ntmps37
  go_wp2
  go_loopw [5] (fun i wr => ∃ k m : Nat, k ≤ n ∧ i = .int .i64 k ∧ wr = w.drewN m) (fun i _ => n - (intOf i).toNat)
  case atStart => exact ⟨0, 0, by omega, rfl, rfl⟩
  case round =>
    obtain ⟨k, m, hk, rfl, rfl⟩ := hrel
    by_cases hlt : k < n
    · obtain ⟨b1, o1, rfl, k1⟩ := H1.out.at (by omega)
      obtain ⟨b2, o2, rfl, k2⟩ := H2.out.at (by omega)
      obtain ⟨e1, e2⟩ := k1 k hlt
      obtain ⟨e3, e4⟩ := k2 k hlt
      obtain ⟨x, hx⟩ : ∃ x, z.getD k k0 = x := ⟨_, rfl⟩
      rw [hx] at e1 e2 e3 e4
      obtain ⟨x1, x2⟩ := x
      simp only at e1 e2 e3 e4
      have f1 : (x1 == x1) = true := by simp
      have f2 := str_same x2
      clear hx k1 k2
      go_wp2
      go_quiet (fail)
      go_wp2
      go_roundw
      case rel => exact ⟨k + 1, _, by omega, by go_num, rfl⟩
      case measure => simp [intOf]; omega
    · go_wp2
      go_ret
      exact ⟨rfl, _, rfl⟩
theorem sameKeys_yes (a1 a2 : Option Addr) (n c1 c2 : Nat) (z : List KV) (w : World) (h1 : HoldsK w a1 n z) (h2 : HoldsK w a2 n z) (hl : n ≤ 4611686018427387904) :
    Calls Tryd.prog 37 #[.slice a1 n c1, .slice a2 n c2] w fun e w' => e = .returned (.bool true) ∧ Below w.heap.size w w' :=
  (sameKeys_quiet a1 a2 n c1 c2 z w h1 h2 hl).mono fun _ _ ⟨h, m, hm⟩ => ⟨h, by rw [hm]; exact below_drewN _ _⟩
end Go.Proofs.YtmddnklafplikaaDoor
namespace Go.Proofs.YtmddnklafplikaaDoor
open Go.RowKit
set_option linter.unusedVariables false
set_option maxRecDepth 20000
abbrev cfgL (a k : Value) (i0 i1 i2 i3 i4 i5 i6 i7 i8 i9 : Int) : Array Value := #[a, k, .int .i64 i0, .int .i64 i1, .int .i64 i2, .int .i64 i3, .int .i64 i4, .int .i64 i5, .int .i64 i6, .int .i64 i7, .int .i64 i8, .int .i64 i9]
set_option maxRecDepth 100000 in
set_option maxHeartbeats 1600000 in
theorem sameConfig_yes (a1 a2 k1 k2 : Option Addr) (n m c1 c2 d1 d2 : Nat) (ts : List Tx) (ks : List KV) (i0 i1 i2 i3 i4 i5 i6 i7 i8 i9 : Int) (w : World) (h1 : HoldsT w a1 n ts) (h2 : HoldsT w a2 n ts) (g1 : HoldsK w k1 m ks) (g2 : HoldsK w k2 m ks) (hn : n ≤ 1048576) (hm : m ≤ 1048576) :
    Calls Tryd.prog 19 #[.agg (cfgL (.slice a1 n c1) (.slice k1 m d1) i0 i1 i2 i3 i4 i5 i6 i7 i8 i9), .agg (cfgL (.slice a2 n c2) (.slice k2 m d2) i0 i1 i2 i3 i4 i5 i6 i7 i8 i9)] w fun e w' => e = .returned (.bool true) ∧ Below w.heap.size w w' := by
  obtain ⟨w1, hw1⟩ : ∃ w1, w.alloc (.cells (cfgL (.slice a1 n c1) (.slice k1 m d1) i0 i1 i2 i3 i4 i5 i6 i7 i8 i9) 30) = w1 := ⟨_, rfl⟩
  obtain ⟨w2, hw2⟩ : ∃ w2, w1.alloc (.cells (cfgL (.slice a2 n c2) (.slice k2 m d2) i0 i1 i2 i3 i4 i5 i6 i7 i8 i9) 30) = w2 := ⟨_, rfl⟩
  have b1 : Below w.heap.size w w1 := hw1 ▸ below_one w _
  have b2 : Below w1.heap.size w1 w2 := hw2 ▸ below_one w1 _
  have p1 : w2.heap[w.heap.size]? = some (.cells (cfgL (.slice a1 n c1) (.slice k1 m d1) i0 i1 i2 i3 i4 i5 i6 i7 i8 i9) 30 (0, 0)) := by
    rw [b2.block w.heap.size (by rw [← hw1]; simp), ← hw1]; exact heap_alloc_new w _
  have p2 : w2.heap[w.heap.size + 1]? = some (.cells (cfgL (.slice a2 n c2) (.slice k2 m d2) i0 i1 i2 i3 i4 i5 i6 i7 i8 i9) 30 (0, 0)) := by
    have h := heap_alloc_new w1 (.cells (cfgL (.slice a2 n c2) (.slice k2 m d2) i0 i1 i2 i3 i4 i5 i6 i7 i8 i9) 30)
    rw [hw2, show w1.heap.size = w.heap.size + 1 from by rw [← hw1]; simp] at h
    exact h
  have B2 := Lib.hid (b1.trans (b2.mono b1.size))
  have CT := Lib.hid (fun w' (hb : Below w.heap.size w w') => sameTexts_yes a1 a2 n c1 c2 ts w' (h1.below hb) (h2.below hb) (by omega))
  have CK := Lib.hid (fun w' (hb : Below w.heap.size w w') => sameKeys_yes k1 k2 m d1 d2 ks w' (g1.below hb) (g2.below hb) (by omega))
  obtain ⟨q, hq⟩ : ∃ q, w.heap.size = q := ⟨_, rfl⟩
  have hq1 : w1.heap.size = q + 1 := by rw [← hw1, ← hq]; simp
  rw [hq] at p1 p2
  have P1 := Lib.hid p1; have P2 := Lib.hid p2
  have x0 : w2.cell? ⟨q, 0, none⟩ = some (.slice a1 n c1) := by rw [Lib.cell_of_heap p1]; rfl
  have x1 : w2.cell? ⟨q, 1, none⟩ = some (.slice k1 m d1) := by rw [Lib.cell_of_heap p1]; rfl
  have x2 : w2.cell? ⟨q, 2, none⟩ = some (.int .i64 i0) := by rw [Lib.cell_of_heap p1]; rfl
  have x3 : w2.cell? ⟨q, 3, none⟩ = some (.int .i64 i1) := by rw [Lib.cell_of_heap p1]; rfl
  have x4 : w2.cell? ⟨q, 4, none⟩ = some (.int .i64 i2) := by rw [Lib.cell_of_heap p1]; rfl
  have x5 : w2.cell? ⟨q, 5, none⟩ = some (.int .i64 i3) := by rw [Lib.cell_of_heap p1]; rfl
  have x6 : w2.cell? ⟨q, 6, none⟩ = some (.int .i64 i4) := by rw [Lib.cell_of_heap p1]; rfl
  have x7 : w2.cell? ⟨q, 7, none⟩ = some (.int .i64 i5) := by rw [Lib.cell_of_heap p1]; rfl
  have x8 : w2.cell? ⟨q, 8, none⟩ = some (.int .i64 i6) := by rw [Lib.cell_of_heap p1]; rfl
  have x9 : w2.cell? ⟨q, 9, none⟩ = some (.int .i64 i7) := by rw [Lib.cell_of_heap p1]; rfl
  have xa : w2.cell? ⟨q, 10, none⟩ = some (.int .i64 i8) := by rw [Lib.cell_of_heap p1]; rfl
  have xb : w2.cell? ⟨q, 11, none⟩ = some (.int .i64 i9) := by rw [Lib.cell_of_heap p1]; rfl
  have y0 : w2.cell? ⟨q + 1, 0, none⟩ = some (.slice a2 n c2) := by rw [Lib.cell_of_heap p2]; rfl
  have y1 : w2.cell? ⟨q + 1, 1, none⟩ = some (.slice k2 m d2) := by rw [Lib.cell_of_heap p2]; rfl
  have y2 : w2.cell? ⟨q + 1, 2, none⟩ = some (.int .i64 i0) := by rw [Lib.cell_of_heap p2]; rfl
  have y3 : w2.cell? ⟨q + 1, 3, none⟩ = some (.int .i64 i1) := by rw [Lib.cell_of_heap p2]; rfl
  have y4 : w2.cell? ⟨q + 1, 4, none⟩ = some (.int .i64 i2) := by rw [Lib.cell_of_heap p2]; rfl
  have y5 : w2.cell? ⟨q + 1, 5, none⟩ = some (.int .i64 i3) := by rw [Lib.cell_of_heap p2]; rfl
  have y6 : w2.cell? ⟨q + 1, 6, none⟩ = some (.int .i64 i4) := by rw [Lib.cell_of_heap p2]; rfl
  have y7 : w2.cell? ⟨q + 1, 7, none⟩ = some (.int .i64 i5) := by rw [Lib.cell_of_heap p2]; rfl
  have y8 : w2.cell? ⟨q + 1, 8, none⟩ = some (.int .i64 i6) := by rw [Lib.cell_of_heap p2]; rfl
  have y9 : w2.cell? ⟨q + 1, 9, none⟩ = some (.int .i64 i7) := by rw [Lib.cell_of_heap p2]; rfl
  have ya : w2.cell? ⟨q + 1, 10, none⟩ = some (.int .i64 i8) := by rw [Lib.cell_of_heap p2]; rfl
  have yb : w2.cell? ⟨q + 1, 11, none⟩ = some (.int .i64 i9) := by rw [Lib.cell_of_heap p2]; rfl
  clear b1 b2 p1 p2 h1 h2 g1 g2
  go_enter Tryd.func19, Tryd.ntmps19
  go_upto_region 1 with fail
  try rw [hw1]
  try rw [hw2]
  try simp only [hq, hq1]
  have HQ := Lib.hid hq
  clear hw1 hw2 hq hq1
  go_wp2_with fail
  refine (CT.out _ B2.out).mono ?_
  rintro e w3 ⟨rfl, hb3⟩
  have z1 := (hb3.cell (p := ⟨q, 1, none⟩) (lt_of_cell x1)).trans x1
  have z2 := (hb3.cell (p := ⟨q + 1, 1, none⟩) (lt_of_cell y1)).trans y1
  have B3 := Lib.hid (B2.out.trans (hb3.mono B2.out.size))
  clear hb3 x0 x1 x2 x3 x4 x5 x6 x7 x8 x9 xa xb y0 y1 y2 y3 y4 y5 y6 y7 y8 y9 ya yb
  go_wp2_with fail
  refine (CK.out _ B3.out).mono ?_
  rintro e w4 ⟨rfl, hb4⟩
  have B4 := Lib.hid (B3.out.trans (hb4.mono B3.out.size))
  clear hb4
  go_wp2_with fail
  go_ret
  exact ⟨rfl, B4.out⟩
end Go.Proofs.YtmddnklafplikaaDoor
namespace Go.Proofs.YtmddnklafplikaaDoor
open Go.RowKit
set_option linter.unusedVariables false
set_option maxRecDepth 20000
def LitP (w : World) (st : PS) (nw nk ne k f : Nat) (a0 a1 a2 a3 a4 a5 a6 a7 a8 a9 : Int) (e : Ending) (w' : World) : Prop := ∃ wa ka ea wc kc ec, e = .returned (.tuple #[.agg #[.slice wa nw wc, .slice ka nk kc, .int .i64 a0, .int .i64 a1, .int .i64 a2, .int .i64 a3, .int .i64 a4, .int .i64 a5, .int .i64 a6, .int .i64 a7, .int .i64 a8, .int .i64 a9], .slice ea ne ec, .int .i64 (k : Int), .int .i64 (f : Int)]) ∧ HoldsT w' wa nw st.ws ∧ HoldsK w' ka nk st.ks ∧ HoldsEv w' ea ne st.es ∧ ParsedAt w' w.heap.size wa ka ea wc kc ec st ∧ Below w.heap.size w w'
/-- a text that is parsed: what it gives, in letters -/
theorem parse_lits (s : ByteArray) (hs : s.size ≤ 300000) : ∃ (st : PS) (nw nk ne k f : Nat) (a0 a1 a2 a3 a4 a5 a6 a7 a8 a9 : Int), parseF s.data.toList = (st, k, f) ∧ st.ns = [a0, a1, a2, a3, a4, a5, a6, a7, a8, a9] ∧ st.ws.length = nw ∧ st.ks.length = nk ∧ st.es.length = ne ∧ ∀ w, MaxL w → Calls Tryd.prog 18 #[.string s] w (LitP w st nw nk ne k f a0 a1 a2 a3 a4 a5 a6 a7 a8 a9) := by
  have hmay := parseF_may s.data.toList
  have hC := fun w h => parse_any s w hs h
  obtain ⟨st, k, f, hp⟩ : ∃ st k f, parseF s.data.toList = (st, k, f) := ⟨_, _, _, rfl⟩
  rw [hp] at hmay hC
  obtain ⟨ws, ks, ns, es⟩ := st
  have hl : ns.length = 10 := hmay.2
  obtain ⟨a0, a1, a2, a3, a4, a5, a6, a7, a8, a9, rfl⟩ := ten_ints hl
  refine ⟨⟨ws, ks, [a0, a1, a2, a3, a4, a5, a6, a7, a8, a9], es⟩, _, _, _, k, f, a0, a1, a2, a3, a4, a5, a6, a7, a8, a9, hp, rfl, rfl, rfl, rfl, fun w hm => (hC w hm).mono ?_⟩
  rintro e w' ⟨wa, ka, ea, wc, kc, ec, rfl, hq, hb⟩
  exact ⟨wa, ka, ea, wc, kc, ec, rfl, HoldsT.own hq.rw, HoldsK.own hq.rk, HoldsEv.own hq.re, hq, hb⟩
open Go.ChangeShapes Go.WideShapes Go.ChangeAt in
theorem maxL_of {W : World} (h : W.ShapedOpen Tryd.prog) : MaxL W :=
  cell_of_shapedOpen_int (g := 0) (t := 3) (zero := #[.int .i64 0]) (k := .i64) h (of_decide_eq_true (by kernel_rfl)) (by kernel_rfl) rfl (by kernel_rfl) (by kernel_rfl) Tryd.underlying3
end Go.Proofs.YtmddnklafplikaaDoor
namespace Go.Proofs.YtmddnklafplikaaDoor
open Go.RowKit
set_option linter.unusedVariables false
set_option maxRecDepth 20000
theorem printF_cases (st : PS) : ((printF st).2 = 0 ∧ (printF st).1 = printB st ∧ mayPr st = true) ∨ ((printF st).2 ≠ 0 ∧ (printF st).1 = []) := by
  unfold printF
  by_cases hm : mayPr st = false
  · rw [if_pos hm]; exact Or.inr ⟨by simp, rfl⟩
  · rw [if_neg hm]
    split
    · exact Or.inr ⟨by simp, rfl⟩
    · exact Or.inl ⟨rfl, rfl, by simpa using hm⟩
theorem printF_short {st : PS} (h : (printF st).2 = 0) : (printF st).1.length ≤ 65536 := by
  unfold printF at h ⊢
  by_cases hm : mayPr st = false
  · rw [if_pos hm]; simp
  · rw [if_neg hm] at h ⊢
    split
    · simp
    · rename_i hb
      show (printB st).length ≤ 65536
      omega
theorem parse_of (st : PS) (nw nk ne : Nat) (a0 a1 a2 a3 a4 a5 a6 a7 a8 a9 : Int) (s : ByteArray) (hs : s.size ≤ 300000) (hp : parseF s.data.toList = (st, 0, 0)) (hns : st.ns = [a0, a1, a2, a3, a4, a5, a6, a7, a8, a9]) (h1 : st.ws.length = nw) (h2 : st.ks.length = nk) (h3 : st.es.length = ne) :
    ∀ w, MaxL w → Calls Tryd.prog 18 #[.string s] w (LitP w st nw nk ne 0 0 a0 a1 a2 a3 a4 a5 a6 a7 a8 a9) := by
  intro w hm
  have h := parse_any s w hs hm
  rw [hp] at h
  refine h.mono ?_
  rintro e w' ⟨wa, ka, ea, wc, kc, ec, rfl, hq, hb⟩
  obtain ⟨ws, ks, ns, es⟩ := st
  subst h1 h2 h3
  obtain rfl : ns = [a0, a1, a2, a3, a4, a5, a6, a7, a8, a9] := hns
  exact ⟨wa, ka, ea, wc, kc, ec, rfl, HoldsT.own hq.rw, HoldsK.own hq.rk, HoldsEv.own hq.re, hq, hb⟩
theorem print_lits (nw nk ne : Nat) (a0 a1 a2 a3 a4 a5 a6 a7 a8 a9 : Int) (ws : List Tx) (ks : List KV) (es : List EvP) (hnw : nw ≤ 1000000) (hnk : nk ≤ 1000000) (hne : ne ≤ 1000000)
    (hws : ∀ t ∈ ws, t.size ≤ 1048576) (hks : ∀ k ∈ ks, k.2.size ≤ 1048576) (hes : ∀ x ∈ es, x.text.size ≤ 1048576) (hl : mayPr ⟨ws, ks, [a0, a1, a2, a3, a4, a5, a6, a7, a8, a9], es⟩ = true → (printB ⟨ws, ks, [a0, a1, a2, a3, a4, a5, a6, a7, a8, a9], es⟩).length ≤ 90000000) :
    ∃ (t : ByteArray) (k : Nat), ((k = 0 ∧ parseF t.data.toList = (⟨ws, ks, [a0, a1, a2, a3, a4, a5, a6, a7, a8, a9], es⟩, 0, 0) ∧ t.size ≤ 65536) ∨ (k ≠ 0 ∧ t = ⟨#[]⟩)) ∧ (mayPr ⟨ws, ks, [a0, a1, a2, a3, a4, a5, a6, a7, a8, a9], es⟩ = true → k = 0 ∨ k = 3) ∧
      ∀ (wa ka ea : Option Addr) (wc kc ec : Nat) (w : World), HoldsT w wa nw ws → HoldsK w ka nk ks → HoldsEv w ea ne es → Tab10 w → Calls Tryd.prog 15 #[.agg #[.slice wa nw wc, .slice ka nk kc, .int .i64 a0, .int .i64 a1, .int .i64 a2, .int .i64 a3, .int .i64 a4, .int .i64 a5, .int .i64 a6, .int .i64 a7, .int .i64 a8, .int .i64 a9], .slice ea ne ec] w fun e w' => e = .returned (.tuple #[.string t, .int .i64 (k : Int)]) ∧ Below w.heap.size w w' := by
  obtain ⟨st, hst⟩ : ∃ st : PS, ⟨ws, ks, [a0, a1, a2, a3, a4, a5, a6, a7, a8, a9], es⟩ = st := ⟨_, rfl⟩
  have hns : st.ns.length = 10 := by rw [← hst]; rfl
  refine ⟨⟨(printF st).1.toArray⟩, (printF st).2, ?_, fun hm => ?_, fun wa ka ea wc kc ec w h1 h2 h3 h4 => ?_⟩
  · rw [hst]
    rcases printF_cases st with ⟨c1, c2, c3⟩ | ⟨c1, c2⟩
    · refine Or.inl ⟨c1, parse_print st c1 hns, ?_⟩
      have h := printF_short c1
      show (printF st).1.toArray.size ≤ 65536
      rw [List.size_toArray]; exact h
    · exact Or.inr ⟨c1, by rw [c2]⟩
  · rw [hst] at hm
    exact printF_err hm
  · have h := print_any wa ka ea nw nk ne wc kc ec a0 a1 a2 a3 a4 a5 a6 a7 a8 a9 ws ks es w h1 h2 h3 h4 hnw hnk hne hws hks hes hl
    rw [hst] at h
    exact h
end Go.Proofs.YtmddnklafplikaaDoor
namespace Go.Proofs.YtmddnklafplikaaDoor
open Go.ChangeShapes Go.WideShapes Go.ChangeAt Go.RowKit
set_option linter.unusedVariables false
set_option maxRecDepth 20000
theorem Tryd.cellsStr : Tryd.prog.cellsOf 9 = 1 := by kernel_rfl
end Go.Proofs.YtmddnklafplikaaDoor
namespace Go.Proofs.YtmddnklafplikaaDoor
open Go.ChangeShapes Go.WideShapes Go.ChangeAt Go.RowKit Go.Deep
set_option linter.unusedVariables false
set_option maxRecDepth 20000
theorem open_rows_cell {H : Type} {enc : TypeId × Value → H} {P : Program} {W : World} {t e : TypeId} {k : Nat} {c : Value} {fuel : Nat} {y : DataW H × List MemPlace}
    (ht : P.underlying t = some (.slice e)) (hc : P.cellsOf e = k) (hk : 0 < k) (good : List Value → Prop)
    (hgood : ∀ m cs y, DataW.trod enc P W 0 (fun _ => true) true m e cs = some y → good cs)
    (hf : DataW.trod enc P W 0 (fun _ => true) true fuel t [c] = some y) :
    ∃ (a : Option Addr) (n cap : Nat) (R : Nat → List Value), c = .slice a n cap ∧ (a = none → n = 0 ∧ cap = 0) ∧ n ≤ cap ∧ cap ≤ maxLen ∧ (∀ i, i < n → good (R i)) ∧
      (0 < n → ∃ b o, a = some ⟨b, o, none⟩ ∧ ∀ i, i < n → ∀ j, j < k → W.cell? ⟨b, o + i * k + j, none⟩ = (R i)[j]?) := by
  rcases open_slice ht hf with ⟨hcs, _⟩ | ⟨x, len, cap, m, n, D, Pl, hcs, _, hl, hm, hmm, _, hx⟩
  · obtain rfl : c = .slice none 0 0 := by simpa using hcs
    exact ⟨none, 0, 0, fun _ => [], rfl, fun _ => ⟨rfl, rfl⟩, Nat.le_refl _, by unfold maxLen; omega, by simp, by simp⟩
  · obtain rfl : c = .slice (some x) len cap := by simpa using hcs
    simp at hmm
    subst hmm
    rw [hc] at hx
    have hR : ∀ i, ∃ cs' : List Value, i < m → W.cells? 0 (x.add (i * k)) k = some cs' ∧ good cs' := fun i => by
      by_cases hi : i < m
      · obtain ⟨cs', h1, h2⟩ := hx i hi
        exact ⟨cs', fun _ => ⟨h1, hgood _ _ _ h2⟩⟩
      · exact ⟨[], fun h => absurd h hi⟩
    refine ⟨some x, len, m, fun i => (hR i).choose, rfl, (fun h => by cases h), hl, hm, fun i hi => ((hR i).choose_spec (by omega)).2, fun h0 => ?_⟩
    have h1 := fun i (hi : i < m) => (World.cells?_some ((hR i).choose_spec hi).1)
    obtain ⟨b, off, spot⟩ := x
    have hspot : spot = none := by
      have h2 := (h1 0 (by omega)).2.2 0 hk
      have h3 := (h1 0 (by omega)).2.1
      have h4 : ((hR 0).choose)[0]? = some (((hR 0).choose)[0]'(by omega)) := List.getElem?_eq_getElem _
      rw [h4] at h2
      simpa [Addr.add] using World.cell?_spot h2
    subst hspot
    refine ⟨b, off, rfl, fun i hi j hj => ?_⟩
    have h2 := (h1 i (by omega)).2.2 j hj
    rw [← h2, Go.WideShapes.add_plain, Go.WideShapes.add_plain]
end Go.Proofs.YtmddnklafplikaaDoor
namespace Go.Proofs.YtmddnklafplikaaDoor
open Go.ChangeShapes Go.WideShapes Go.ChangeAt Go.RowKit Go.Deep
set_option linter.unusedVariables false
set_option maxRecDepth 20000
theorem open_pairs_cell {H : Type} {enc : TypeId × Value → H} {W : World} {c : Value} {fuel : Nat} {y : DataW H × List MemPlace} {t e : TypeId} {fs : Array Field} {f0 f1 : Field}
    (ht : Tryd.prog.underlying t = some (.slice e)) (he : Tryd.prog.underlying e = some (.struct fs)) (hc : Tryd.prog.cellsOf e = 2) (hf0 : fs[0]? = some f0) (hf1 : fs[1]? = some f1) (g0 : f0.type = 3 ∧ f0.offset = 0) (g1 : f1.type = 9 ∧ f1.offset = 1)
    (hf : DataW.trod enc Tryd.prog W 0 (fun _ => true) true fuel t [c] = some y) :
    ∃ a n cap ks, c = .slice a n cap ∧ HoldsK W a n ks ∧ (a = none → n = 0 ∧ cap = 0) ∧ n ≤ cap ∧ n ≤ 9223372036854775807 ∧ ∀ k ∈ ks, KeyOk k := by
  obtain ⟨a, n, cap, R, rfl, hnil, h1, h2, hg, hc⟩ := open_rows_cell ht hc (by omega) (fun cs => ∃ k : KV, KeyOk k ∧ cs = [.int .i64 k.1, .string k.2]) (fun _ _ _ h => pair_of he hc hf0 hf1 g0 g1 h) hf
  have hx : ∀ i, ∃ k : KV, i < n → KeyOk k ∧ R i = [.int .i64 k.1, .string k.2] := fun i => by
    by_cases hi : i < n
    · obtain ⟨x, h3⟩ := hg i hi
      exact ⟨x, fun _ => h3⟩
    · exact ⟨k0, fun h => absurd h hi⟩
  have hget : ∀ i, i < n → ((List.range n).map fun i => (hx i).choose).getD i k0 = (hx i).choose := fun i hi => by simp [List.getD_eq_getElem?_getD, hi]
  refine ⟨a, n, cap, (List.range n).map fun i => (hx i).choose, rfl, ⟨by simp, fun h0 => ?_⟩, hnil, h1, by unfold maxLen at h2; omega, fun k hk => ?_⟩
  · obtain ⟨b, o, ha, hcell⟩ := hc h0
    refine ⟨b, o, ha, fun i hi => ?_⟩
    have e := ((hx i).choose_spec hi).2
    have c0 := hcell i hi 0 (by omega)
    have c1 := hcell i hi 1 (by omega)
    rw [e] at c0 c1
    rw [hget i hi]
    exact ⟨by simpa using c0, by simpa using c1⟩
  · obtain ⟨i, hi, rfl⟩ := List.mem_map.1 hk
    exact ((hx i).choose_spec (by simpa using hi)).1
end Go.Proofs.YtmddnklafplikaaDoor
namespace Go.Proofs.YtmddnklafplikaaDoor
open Go.RowKit
set_option linter.unusedVariables false
set_option maxRecDepth 20000
def mayK (k : KV) : Prop := 1 ≤ k.1 ∧ k.1 ≤ 12 ∧ 0 ≤ lenS k.2 ∧ lenS k.2 ≤ 12
instance (k : KV) : Decidable (mayK k) := by unfold mayK; infer_instance
end Go.Proofs.YtmddnklafplikaaDoor
namespace Go.Proofs.YtmddnklafplikaaDoor
open Go.RowKit
set_option linter.unusedVariables false
set_option maxRecDepth 20000
def SortedK (l : List KV) : Prop := l.Pairwise fun a b => ordK a b < 0
instance (l : List KV) : Decidable (SortedK l) := by unfold SortedK; infer_instance
end Go.Proofs.YtmddnklafplikaaDoor
namespace Go.Proofs.YtmddnklafplikaaDoor
open Go.RowKit
set_option linter.unusedVariables false
set_option maxRecDepth 20000
/-- a configuration, and where its words and cuts lie -/
structure Cfg where
  wa : Option Addr
  wn : Nat
  wc : Nat
  ka : Option Addr
  kn : Nat
  kc : Nat
  W : Int
  C : Int
  S : Int
  B : Int
  L : Int
  H : Int
  F : Int
  P : Int
  J : Int
  N : Int
  ws : List Tx
  ks : List KV
def CfgOk (w : World) (c : Cfg) : Prop := HoldsT w c.wa c.wn c.ws ∧ (c.wa = none → c.wn = 0 ∧ c.wc = 0) ∧ c.wn ≤ c.wc ∧ c.wn ≤ 9223372036854775807 ∧ (∀ t ∈ c.ws, t.size ≤ 9223372036854775807) ∧ HoldsK w c.ka c.kn c.ks ∧ c.kn ≤ 9223372036854775807 ∧ ∀ k ∈ c.ks, KeyOk k
end Go.Proofs.YtmddnklafplikaaDoor
namespace Go.Proofs.YtmddnklafplikaaDoor
open Go.ChangeShapes Go.WideShapes Go.ChangeAt Go.RowKit
set_option linter.unusedVariables false
set_option maxRecDepth 20000
/-- A struct by value, opened: its cells, and of each field its own reading. -/
theorem open_aggs2 {H : Type} {enc : TypeId × Value → H} {P : Program} {w : World} {base : Nat} {spare : Nat → Bool} {held : Bool} {r : Reach} {b0 : Nat} {t : TypeId} {fs : Array Field} {v : Value} {d : DataW H} {p : List MemPlace}
    (hs : P.underlying t = some (.struct fs)) (hv : Value.okWide P w r b0 t v) (h : DataW.Trod enc P w base spare held t v d p) :
    ∃ cs : Array Value, v = .agg cs ∧ cs.size = P.cellsOf t ∧ ∃ n, ∀ (i : Nat) (f : Field), fs[i]? = some f → ∃ y, DataW.trod enc P w base spare held n f.type ((cs.toList.drop f.offset).take (P.cellsOf f.type)) = some y := by
  obtain ⟨cs, rfl, hsz⟩ := okWide_struct hs hv
  obtain ⟨fuel, hf⟩ := h
  obtain ⟨xs, n, _, _, hl, hlen, hx⟩ := DataW.trod_struct hs hf
  refine ⟨cs, rfl, hsz, n, fun i f hi => ?_⟩
  have h1 := hx i f hi
  have hlt : i < xs.length := by
    rw [hlen]
    rcases Nat.lt_or_ge i fs.size with h' | h'
    · exact h'
    · rw [Array.getElem?_eq_none h'] at hi; cases hi
  rw [List.getElem?_eq_getElem hlt] at h1
  exact ⟨_, by simpa [Value.cells] using h1⟩
theorem array12c {α : Type} {cs : Array α} (h : cs.size = 12) : ∃ c0 c1 c2 c3 c4 c5 c6 c7 c8 c9 c10 c11, cs = #[c0, c1, c2, c3, c4, c5, c6, c7, c8, c9, c10, c11] := by
  obtain ⟨l⟩ := cs
  match l, h with
  | [c0, c1, c2, c3, c4, c5, c6, c7, c8, c9, c10, c11], _ => exact ⟨c0, c1, c2, c3, c4, c5, c6, c7, c8, c9, c10, c11, rfl⟩
theorem open_texts_cell {H : Type} {enc : TypeId × Value → H} {W : World} {v : Value} {fuel : Nat} {y : DataW H × List MemPlace}
    (hf : DataW.trod enc Tryd.prog W 0 (fun _ => true) true fuel 27 [v] = some y) :
    ∃ a n cap ts, v = .slice a n cap ∧ HoldsT W a n ts ∧ (a = none → n = 0 ∧ cap = 0) ∧ n ≤ cap ∧ n ≤ 9223372036854775807 ∧ ∀ t ∈ ts, t.size ≤ 9223372036854775807 := by
  rcases open_strings Tryd.underlying27 Tryd.underlying9 Tryd.cellsStr hf with ⟨hcs, _⟩ | ⟨x, l, c, ss, hcs, _, hl, hm, hz, _, hcell, hsz⟩
  · obtain rfl : v = .slice none 0 0 := by simpa using hcs
    exact ⟨none, 0, 0, [], rfl, HoldsT.nil _ _, fun _ => ⟨rfl, rfl⟩, Nat.le_refl _, by omega, by simp⟩
  · obtain rfl : v = .slice (some x) l c := by simpa using hcs
    have hzc : ss.length = c := by simpa using hz
    refine ⟨some x, l, c, ss.take l, rfl, ?_, (fun h => by cases h), hl, by unfold maxLen at hm; omega, fun t ht => by have := hsz t (List.mem_of_mem_take ht); unfold maxLen at this; omega⟩
    refine ⟨by simp [strsV]; omega, fun h0 => ?_⟩
    obtain ⟨b, off, spot⟩ := x
    have hspot : spot = none := by simpa [Addr.add] using World.cell?_spot (hcell 0 (by omega))
    subst hspot
    refine ⟨b, off, rfl, fun i hi => ?_⟩
    rw [← Go.WideShapes.add_plain, hcell i (by omega), getD_map_str _ i (by simp; omega)]
    congr 2
    simp only [List.getD_eq_getElem?_getD, List.getElem?_take]
    rw [if_pos hi]
theorem cells_cfg : Tryd.prog.cellsOf 30 = 12 := by kernel_rfl
theorem cells_ci : Tryd.prog.cellsOf 3 = 1 := by kernel_rfl
theorem cells_ct : Tryd.prog.cellsOf 27 = 1 := by kernel_rfl
theorem cells_ck : Tryd.prog.cellsOf 28 = 1 := by kernel_rfl
theorem cfg_int {H : Type} {enc : TypeId × Value → H} {W : World} {c : Value} {fuel : Nat} {y : DataW H × List MemPlace} (hy : DataW.trod enc Tryd.prog W 0 (fun _ => true) true fuel 3 [c] = some y) : ∃ k : Int, c = .int .i64 k := by
  obtain ⟨k, hk, _⟩ := DataW.trod_int Tryd.underlying3 hy
  exact ⟨k, by simpa using hk⟩
set_option maxRecDepth 100000 in
theorem open_cfg {H : Type} {enc : TypeId × Value → H} {W : World} {base : Nat} {v : Value} {d : DataW H} {p : List MemPlace}
    (hv : Value.okWide Tryd.prog W .any base 30 v) (h : DataW.Trod enc Tryd.prog W 0 (fun _ => true) true 30 v d p) :
    ∃ c : Cfg, v = .agg #[.slice c.wa c.wn c.wc, .slice c.ka c.kn c.kc, .int .i64 c.W, .int .i64 c.C, .int .i64 c.S, .int .i64 c.B, .int .i64 c.L, .int .i64 c.H, .int .i64 c.F, .int .i64 c.P, .int .i64 c.J, .int .i64 c.N] ∧ CfgOk W c := by
  obtain ⟨cs, rfl, hsz, n, hf⟩ := open_aggs2 Tryd.underlying30 hv h
  obtain ⟨c0, c1, c2, c3, c4, c5, c6, c7, c8, c9, c10, c11, rfl⟩ := array12c (hsz.trans cells_cfg)
  obtain ⟨y0, z0⟩ := hf 0 _ rfl
  obtain ⟨wa, wn, wc, ws, rfl, q1, q2, q3, q4, q5⟩ := open_texts_cell (v := c0) (by simpa [cells_ct] using z0)
  obtain ⟨y1, z1⟩ := hf 1 _ rfl
  obtain ⟨ka, kn, kc, ks, rfl, r1, r2, r3, r4, r5⟩ := open_pairs_cell (c := c1) Tryd.underlying28 Tryd.underlying65 (by kernel_rfl) rfl rfl ⟨rfl, rfl⟩ ⟨rfl, rfl⟩ (by simpa [cells_ck] using z1)
  obtain ⟨y2, z2⟩ := hf 2 _ rfl
  obtain ⟨i2, rfl⟩ := cfg_int (c := c2) (by simpa [cells_ci] using z2)
  obtain ⟨y3, z3⟩ := hf 3 _ rfl
  obtain ⟨i3, rfl⟩ := cfg_int (c := c3) (by simpa [cells_ci] using z3)
  obtain ⟨y4, z4⟩ := hf 4 _ rfl
  obtain ⟨i4, rfl⟩ := cfg_int (c := c4) (by simpa [cells_ci] using z4)
  obtain ⟨y5, z5⟩ := hf 5 _ rfl
  obtain ⟨i5, rfl⟩ := cfg_int (c := c5) (by simpa [cells_ci] using z5)
  obtain ⟨y6, z6⟩ := hf 6 _ rfl
  obtain ⟨i6, rfl⟩ := cfg_int (c := c6) (by simpa [cells_ci] using z6)
  obtain ⟨y7, z7⟩ := hf 7 _ rfl
  obtain ⟨i7, rfl⟩ := cfg_int (c := c7) (by simpa [cells_ci] using z7)
  obtain ⟨y8, z8⟩ := hf 8 _ rfl
  obtain ⟨i8, rfl⟩ := cfg_int (c := c8) (by simpa [cells_ci] using z8)
  obtain ⟨y9, z9⟩ := hf 9 _ rfl
  obtain ⟨i9, rfl⟩ := cfg_int (c := c9) (by simpa [cells_ci] using z9)
  obtain ⟨y10, z10⟩ := hf 10 _ rfl
  obtain ⟨i10, rfl⟩ := cfg_int (c := c10) (by simpa [cells_ci] using z10)
  obtain ⟨y11, z11⟩ := hf 11 _ rfl
  obtain ⟨i11, rfl⟩ := cfg_int (c := c11) (by simpa [cells_ci] using z11)
  exact ⟨⟨wa, wn, wc, ka, kn, kc, i2, i3, i4, i5, i6, i7, i8, i9, i10, i11, ws, ks⟩, rfl, q1, q2, q3, q4, q5, r1, r4, r5⟩
end Go.Proofs.YtmddnklafplikaaDoor
namespace Go.Proofs.YtmddnklafplikaaDoor
open Go.ChangeShapes Go.WideShapes Go.ChangeAt Go.RowKit
set_option linter.unusedVariables false
set_option maxRecDepth 20000
theorem cellsEint : Tryd.prog.cellsOf 3 = 1 := by kernel_rfl
theorem cells_eev : Tryd.prog.cellsOf 50 = 7 := by kernel_rfl
theorem cells_eqry : Tryd.prog.cellsOf 48 = 3 := by kernel_rfl
theorem cells_estr : Tryd.prog.cellsOf 9 = 1 := by kernel_rfl
theorem qry_of {H : Type} {enc : TypeId × Value → H} {w : World} {base : Nat} {spare : Nat → Bool} {held : Bool} {fuel : Nat} {cs : List Value} {x : DataW H × List MemPlace}
    (h : DataW.trod enc Tryd.prog w base spare held fuel 48 cs = some x) : ∃ t k n, t.size ≤ 9223372036854775807 ∧ cs = [.string t, .int .i64 k, .int .i64 n] := by
  obtain ⟨hl, n, hf⟩ := struct_cells Tryd.underlying48 h
  rw [cells_eqry] at hl
  obtain ⟨c0, c1, c2, rfl⟩ : ∃ c0 c1 c2, cs = [c0, c1, c2] := by
    match cs, hl with
    | [a, b, c], _ => exact ⟨a, b, c, rfl⟩
  obtain ⟨y0, z0⟩ := hf 0 _ rfl
  obtain ⟨y1, z1⟩ := hf 1 _ rfl
  obtain ⟨y2, z2⟩ := hf 2 _ rfl
  obtain ⟨s, hs, _, b0⟩ := DataW.trod_string Tryd.underlying9 z0
  obtain ⟨k1, h1, _, _⟩ := DataW.trod_int Tryd.underlying3 z1
  obtain ⟨k2, h2, _, _⟩ := DataW.trod_int Tryd.underlying3 z2
  simp [cellsEint, cells_estr] at hs h1 h2
  subst hs h1 h2
  exact ⟨s, k1, k2, by unfold maxLen at b0; exact b0, rfl⟩
theorem ev_of {H : Type} {enc : TypeId × Value → H} {w : World} {base : Nat} {spare : Nat → Bool} {held : Bool} {fuel : Nat} {cs : List Value} {x : DataW H × List MemPlace}
    (h : DataW.trod enc Tryd.prog w base spare held fuel 50 cs = some x) : ∃ a : EvP, a.text.size ≤ 9223372036854775807 ∧ cs = cellsEv a := by
  obtain ⟨hl, n, hf⟩ := struct_cells Tryd.underlying50 h
  rw [cells_eev] at hl
  obtain ⟨c0, c1, c2, c3, c4, c5, c6, rfl⟩ : ∃ c0 c1 c2 c3 c4 c5 c6, cs = [c0, c1, c2, c3, c4, c5, c6] := by
    match cs, hl with
    | [c0, c1, c2, c3, c4, c5, c6], _ => exact ⟨c0, c1, c2, c3, c4, c5, c6, rfl⟩
  obtain ⟨y0, z0⟩ := hf 0 _ rfl
  obtain ⟨y1, z1⟩ := hf 1 _ rfl
  obtain ⟨y2, z2⟩ := hf 2 _ rfl
  obtain ⟨y3, z3⟩ := hf 3 _ rfl
  obtain ⟨y4, z4⟩ := hf 4 _ rfl
  obtain ⟨k0, h0, _, _⟩ := DataW.trod_int Tryd.underlying3 z0
  obtain ⟨k1, h1, _, _⟩ := DataW.trod_int Tryd.underlying3 z1
  obtain ⟨k2, h2, _, _⟩ := DataW.trod_int Tryd.underlying3 z2
  obtain ⟨k3, h3, _, _⟩ := DataW.trod_int Tryd.underlying3 z3
  obtain ⟨k4, k5, k6, b4, h4⟩ := qry_of z4
  simp [cellsEint, cells_eqry] at h0 h1 h2 h3 h4
  obtain ⟨e4, e5, e6⟩ := h4
  subst h0 h1 h2 h3 e4 e5 e6
  exact ⟨⟨k0, k1, k2, k3, k4, k5, k6⟩, b4, rfl⟩
theorem open_evs_arg {H : Type} {enc : TypeId × Value → H} {W : World} {base : Nat} {v : Value} {d : DataW H} {p : List MemPlace}
    (o : Value.okWide Tryd.prog W .any base 31 v) (h : DataW.Trod enc Tryd.prog W 0 (fun _ => true) true 31 v d p) :
    ∃ (a : Option Addr) (n c : Nat) (es : List EvP), v = .slice a n c ∧ HoldsEv W a n es ∧ n ≤ 9223372036854775807 ∧ ∀ x ∈ es, x.text.size ≤ 9223372036854775807 := by
  obtain ⟨a, n, c, R, rfl, hno, hnc, hcm, hg, hc⟩ := open_rows_arg (k := 7) Tryd.underlying31 cells_eev (by omega) (fun cs => ∃ a : EvP, a.text.size ≤ 9223372036854775807 ∧ cs = cellsEv a) (fun m cs y hy => ev_of hy) o h
  obtain ⟨f, hf⟩ : ∃ f : Nat → EvP, ∀ i, i < n → (f i).text.size ≤ 9223372036854775807 ∧ R i = cellsEv (f i) :=
    ⟨fun i => if hi : i < n then (hg i hi).choose else ev0, fun i hi => by simp only [dif_pos hi]; exact (hg i hi).choose_spec⟩
  have hgd : ∀ i, i < n → ((List.range n).map f).getD i ev0 = f i := fun i hi => by simp [List.getD_eq_getElem?_getD, hi]
  refine ⟨a, n, c, (List.range n).map f, rfl, ⟨by simp, fun h0 => ?_⟩, by unfold maxLen at hcm; omega, fun x hx => ?_⟩
  · obtain ⟨b, o, ha, hcc⟩ := hc h0
    refine ⟨b, o, ha, fun i hi => ?_⟩
    rw [hgd i hi]
    have e := (hf i hi).2
    have k := hcc i hi
    rw [e] at k
    exact ⟨k 0 (by omega), k 1 (by omega), k 2 (by omega), k 3 (by omega), k 4 (by omega), k 5 (by omega), k 6 (by omega)⟩
  · obtain ⟨i, hi, rfl⟩ := List.mem_map.1 hx
    exact (hf i (List.mem_range.1 hi)).1
end Go.Proofs.YtmddnklafplikaaDoor
namespace Go.Proofs.YtmddnklafplikaaDoor
open Go.RowKit
set_option linter.unusedVariables false
set_option maxRecDepth 20000
theorem tab10_of {laid : List (String × DataW Unit)} {W : World} (hL : laidMetH Tryd.prog laid W) (hT : (laid.filter fun x => x.1 == "internal/strconv.uint64pow10") = [("internal/strconv.uint64pow10", Lib.tabData .u64 Lib.pow10Tab)]) : Tab10 W := by
  have h1 := laidMetH.filter (fun x => x.1 == "internal/strconv.uint64pow10") hL
  rw [hT] at h1
  have h2 := (laidMetH_iff.1 h1).1
  have h3 : laidMet Tryd.prog [("internal/strconv.uint64pow10", Lib.tabData .u64 Lib.pow10Tab)] W := h2
  exact Lib.tabIs_of_head (g := 1) (by kernel_rfl) (by kernel_rfl) Tryd.underlying126 Tryd.underlying115 (by kernel_rfl) (by kernel_rfl) h3
theorem cfg_bounds {W : World} {c : Cfg} (h : CfgOk W c) : HoldsT W c.wa c.wn c.ws ∧ HoldsK W c.ka c.kn c.ks ∧ c.wn ≤ 9223372036854775807 ∧ (∀ t ∈ c.ws, t.size ≤ 9223372036854775807) ∧ c.kn ≤ 9223372036854775807 ∧ ∀ k ∈ c.ks, k.2.size ≤ 9223372036854775807 :=
  ⟨h.1, h.2.2.2.2.2.1, h.2.2.2.1, h.2.2.2.2.1, h.2.2.2.2.2.2.1, fun k hk => by have := h.2.2.2.2.2.2.2 k hk; unfold KeyOk at this; omega⟩
end Go.Proofs.YtmddnklafplikaaDoor
namespace Go.Proofs.YtmddnklafplikaaDoor
open Go.RowKit
set_option linter.unusedVariables false
set_option maxRecDepth 20000
set_option maxRecDepth 100000 in
set_option maxHeartbeats 3200000 in
theorem scriptLines_any (wa ka ea : Option Addr) (nw nk ne wc kc ec : Nat) (a0 a1 a2 a3 a4 a5 a6 a7 a8 a9 : Int) (ws : List Tx) (ks : List KV) (es : List EvP) (w : World)
    (hw : HoldsT w wa nw ws) (hk : HoldsK w ka nk ks) (he : HoldsEv w ea ne es) (ht : Tab10 w) (hm : MaxL w)
    (hn : nw ≤ 9223372036854775807) (hs : ∀ t ∈ ws, t.size ≤ 9223372036854775807) (hnk : nk ≤ 9223372036854775807) (hks : ∀ k ∈ ks, k.2.size ≤ 9223372036854775807) (hne : ne ≤ 9223372036854775807) (hes : ∀ x ∈ es, x.text.size ≤ 9223372036854775807) :
    Calls Tryd.prog 7 #[.agg #[.slice wa nw wc, .slice ka nk kc, .int .i64 a0, .int .i64 a1, .int .i64 a2, .int .i64 a3, .int .i64 a4, .int .i64 a5, .int .i64 a6, .int .i64 a7, .int .i64 a8, .int .i64 a9], .slice ea ne ec] w fun e w' => e = .returned (.bool true) ∧ Below w.heap.size w w' := by
  have AW := Lib.hid (fun w3 (hb : Below w.heap.size w w3) => (awake29_any w3 (hm.below hb (Nat.le_refl _))).mono (fun e w' h => (show e = .returned (.bool true) ∧ Below w.heap.size w w' from ⟨h.1, hb.trans (h.2.mono hb.size)⟩)))
  have B1 := Lib.hid (below_one w (.cells #[.slice wa nw wc, .slice ka nk kc, .int .i64 a0, .int .i64 a1, .int .i64 a2, .int .i64 a3, .int .i64 a4, .int .i64 a5, .int .i64 a6, .int .i64 a7, .int .i64 a8, .int .i64 a9] 30))
  obtain ⟨q, hq⟩ : ∃ q, w.heap.size = q := ⟨_, rfl⟩
  have CB := Lib.hid (show (w.alloc (.cells #[.slice wa nw wc, .slice ka nk kc, .int .i64 a0, .int .i64 a1, .int .i64 a2, .int .i64 a3, .int .i64 a4, .int .i64 a5, .int .i64 a6, .int .i64 a7, .int .i64 a8, .int .i64 a9] 30)).heap[q]? = some (.cells #[.slice wa nw wc, .slice ka nk kc, .int .i64 a0, .int .i64 a1, .int .i64 a2, .int .i64 a3, .int .i64 a4, .int .i64 a5, .int .i64 a6, .int .i64 a7, .int .i64 a8, .int .i64 a9] 30 (0, 0)) from by rw [← hq]; exact heap_alloc_new w _)
  have CG := Lib.hid (fun (w' : World) (hb : Below w.heap.size w w') => greatK_any wa ka nw nk wc kc a0 a1 a2 a3 a4 a5 a6 a7 a8 a9 ws ks w' (hw.below hb) (hk.below hb) hn hs hnk hks)
  have CE := Lib.hid (fun (w' : World) (hb : Below w.heap.size w w') => greatE_any ea ne ec es w' (he.below hb) hne hes)
  have CP := Lib.hid (fun (w' : World) (hb : Below w.heap.size w w') (h1 : ws.length ≤ 80 ∧ ∀ t ∈ ws, t.size ≤ 100) (h2 : ks.length ≤ 10 ∧ ∀ k ∈ ks, k.2.size ≤ 100) (h3 : es.length ≤ 300 ∧ ∀ x ∈ es, x.text.size ≤ 100) => print_any wa ka ea nw nk ne wc kc ec a0 a1 a2 a3 a4 a5 a6 a7 a8 a9 ws ks es w' (hw.below hb) (hk.below hb) (he.below hb) (ht.below hb (Nat.le_refl _)) (by have := hw.len; omega) (by have := hk.1; omega) (by have := he.1; omega) (fun t h => by have := h1.2 t h; omega) (fun t h => by have := h2.2 t h; omega) (fun t h => by have := h3.2 t h; omega) (fun hm => printB_small ws ks [a0, a1, a2, a3, a4, a5, a6, a7, a8, a9] es h1 h2 rfl h3 hm))
  have HLN := Lib.hid (show ws.length = nw ∧ ks.length = nk ∧ es.length = ne from ⟨hw.len, hk.1, he.1⟩)
  clear hw hk he ht hm hs hks hes hn hnk hne
  go_enter Tryd.func7, Tryd.ntmps7
  go_wp2_with fail
  refine (CG.out _ B1.out).mono ?_
  rintro e w2 ⟨z, rfl, hz, hb2⟩
  have B2 := Lib.hid (below_next B1.out hb2)
  have K2 := Lib.hid (show w2.heap[q]? = some (.cells #[.slice wa nw wc, .slice ka nk kc, .int .i64 a0, .int .i64 a1, .int .i64 a2, .int .i64 a3, .int .i64 a4, .int .i64 a5, .int .i64 a6, .int .i64 a7, .int .i64 a8, .int .i64 a9] 30 (0, 0)) from (hb2.block _ (lt_of_heap29 CB.out)).trans CB.out)
  clear hb2 CG CB
  cases z with
  | true =>
    go_wp2_with fail
    refine (AW.out _ B2.out).mono ?_
    rintro e w3 ⟨rfl, hb3⟩
    go_wp2_with fail
    go_ret
    exact ⟨rfl, hb3⟩
  | false =>
    obtain ⟨hz1, hz2⟩ := hz rfl
    clear hz
    go_wp2_with fail
    refine (CE.out _ B2.out).mono ?_
    rintro e w3 ⟨z, rfl, hz, rfl⟩
    cases z with
    | true =>
      go_wp2_with fail
      refine (AW.out _ B2.out).mono ?_
      rintro e w3 ⟨rfl, hb3⟩
      go_wp2_with fail
      go_ret
      exact ⟨rfl, hb3⟩
    | false =>
      have hz3 := hz rfl
      have CP2 := Lib.hid (fun w' hb => CP.out w' hb hz1 hz2 hz3)
      have HZ := Lib.hid (show nw ≤ 80 ∧ nk ≤ 10 ∧ ne ≤ 300 from by have := HLN.out; omega)
      have SM := Lib.hid (printB_small ws ks [a0, a1, a2, a3, a4, a5, a6, a7, a8, a9] es hz1 hz2 rfl hz3)
      clear hz hz1 hz2 hz3 CP CE
      have f0 : w3.cell? ⟨q, 0, none⟩ = some (.slice wa nw wc) := by rw [Lib.cell_of_heap K2.out]; rfl
      have f1 : w3.cell? ⟨q, 1, none⟩ = some (.slice ka nk kc) := by rw [Lib.cell_of_heap K2.out]; rfl
      have f2 : w3.cell? ⟨q, 2, none⟩ = some (.int .i64 a0) := by rw [Lib.cell_of_heap K2.out]; rfl
      have f3 : w3.cell? ⟨q, 3, none⟩ = some (.int .i64 a1) := by rw [Lib.cell_of_heap K2.out]; rfl
      have f4 : w3.cell? ⟨q, 4, none⟩ = some (.int .i64 a2) := by rw [Lib.cell_of_heap K2.out]; rfl
      have f5 : w3.cell? ⟨q, 5, none⟩ = some (.int .i64 a3) := by rw [Lib.cell_of_heap K2.out]; rfl
      have f6 : w3.cell? ⟨q, 6, none⟩ = some (.int .i64 a4) := by rw [Lib.cell_of_heap K2.out]; rfl
      have f7 : w3.cell? ⟨q, 7, none⟩ = some (.int .i64 a5) := by rw [Lib.cell_of_heap K2.out]; rfl
      have f8 : w3.cell? ⟨q, 8, none⟩ = some (.int .i64 a6) := by rw [Lib.cell_of_heap K2.out]; rfl
      have f9 : w3.cell? ⟨q, 9, none⟩ = some (.int .i64 a7) := by rw [Lib.cell_of_heap K2.out]; rfl
      have f10 : w3.cell? ⟨q, 10, none⟩ = some (.int .i64 a8) := by rw [Lib.cell_of_heap K2.out]; rfl
      have f11 : w3.cell? ⟨q, 11, none⟩ = some (.int .i64 a9) := by rw [Lib.cell_of_heap K2.out]; rfl
      obtain ⟨r, hr⟩ : ∃ r, printF ⟨ws, ks, [a0, a1, a2, a3, a4, a5, a6, a7, a8, a9], es⟩ = r := ⟨_, rfl⟩
      have HR := Lib.hid hr
      rw [hr] at CP2
      obtain ⟨s, hs⟩ : ∃ s : ByteArray, (⟨r.1.toArray⟩ : ByteArray) = s := ⟨_, rfl⟩
      obtain ⟨k, hk⟩ : ∃ k, r.2 = k := ⟨_, rfl⟩
      unfold PrintP at CP2
      rw [hs, hk] at CP2
      have HS := Lib.hid hs
      have HK := Lib.hid hk
      clear hr hs hk
      go_wp2_with fail
      refine (CP2.out _ B2.out).mono ?_
      rintro e w4 ⟨rfl, hb4⟩
      have B4 := Lib.hid (B2.out.trans (hb4.mono B2.out.size))
      have K4 := Lib.hid (show w4.heap[q]? = some (.cells #[.slice wa nw wc, .slice ka nk kc, .int .i64 a0, .int .i64 a1, .int .i64 a2, .int .i64 a3, .int .i64 a4, .int .i64 a5, .int .i64 a6, .int .i64 a7, .int .i64 a8, .int .i64 a9] 30 (0, 0)) from (hb4.block _ (lt_of_heap29 K2.out)).trans K2.out)
      clear hb4 CP2 f0 f1 f2 f3 f4 f5 f6 f7 f8 f9 f10 f11
      have hcase := printF_cases ⟨ws, ks, [a0, a1, a2, a3, a4, a5, a6, a7, a8, a9], es⟩
      rw [HR.out] at hcase
      rcases hcase with ⟨c1, c2, c3⟩ | ⟨c1, c2⟩
      case inr =>
        rw [HK.out] at c1
        have hs0 : s = { data := #[] } := by rw [← HS.out, c2]
        have g1 : ((k : Int) != 0) = true := by simp; omega
        subst hs0
        clear c1 c2
        go_wp2_with fail
        refine (AW.out _ B4.out).mono ?_
        rintro e w5 ⟨rfl, hb5⟩
        go_wp2_with fail
        go_ret
        exact ⟨rfl, hb5⟩
      obtain rfl : k = 0 := by rw [← HK.out]; exact c1
      have hsl : s.data.toList = printB ⟨ws, ks, [a0, a1, a2, a3, a4, a5, a6, a7, a8, a9], es⟩ := by rw [← HS.out, ← c2]
      have hct := print_count ⟨ws, ks, [a0, a1, a2, a3, a4, a5, a6, a7, a8, a9], es⟩
      have hla := print_last ⟨ws, ks, [a0, a1, a2, a3, a4, a5, a6, a7, a8, a9], es⟩
      rw [← hsl] at hct hla
      have hct : s.data.toList.countP (· == 10) = nw + nk + 1 + ne := by rw [hct]; have := HLN.out; simp only [] at *; omega
      have hsz : s.size ≤ 90000000 := by have h1 := SM.out c3; rw [← hsl] at h1; have h2 : s.data.toList.length = s.size := Array.length_toList; omega
      obtain ⟨L, hL⟩ : ∃ L, s.data.toList = L := ⟨_, rfl⟩
      obtain ⟨m, hmm⟩ : ∃ m, s.size = m := ⟨_, rfl⟩
      have hLm : L.length = m := by rw [← hL, ← hmm]; exact Array.length_toList
      have HAT := Lib.hid (show ∀ i c, L[i]? = some c → ∃ h' : i < s.size, (s[i]'h').toNat = c.toNat from fun i c h => byte_cons (by rw [hL]; exact h))
      rw [hL] at hct hla
      rw [hmm] at hsz
      have hm0 : 0 < m := by
        rcases Nat.eq_zero_or_pos m with h | h
        · rw [List.eq_nil_of_length_eq_zero (hLm.trans h)] at hla; cases hla
        · exact h
      rw [List.getLast?_eq_getElem?, hLm] at hla
      obtain ⟨l1, hb1⟩ := HAT.out _ _ hla
      obtain ⟨y, hy⟩ : ∃ y, m - 1 = y := ⟨_, rfl⟩
      have hyl : y < s.size := by omega
      have hb2 : (s[y]'hyl).toNat = 10 := by have h := hb1; simp only [hy] at h; exact h
      clear hb1
      have hb1 := hb2
      clear hb2
      have j1 : IntKind.i64.wrap ((m : Int) - 1) = (y : Int) := by rw [IntWalk.i64_in _ (by omega)]; omega
      have j2 : (0 : Int) ≤ (y : Int) := by omega
      have j3 : (y : Int) < (m : Int) := by omega
      have HCT := Lib.hid hct
      have HLM := Lib.hid hLm
      have f0 : w4.cell? ⟨q, 0, none⟩ = some (.slice wa nw wc) := by rw [Lib.cell_of_heap K4.out]; rfl
      have f1 : w4.cell? ⟨q, 1, none⟩ = some (.slice ka nk kc) := by rw [Lib.cell_of_heap K4.out]; rfl
      have HYM := Lib.hid (show y + 1 = m from by omega)
      clear hct hla hLm hL hsl c1 c2 c3 hy hm0 K4
      go_wp2_with fail
      go_loopw [7, 8] (fun nv iv wr => ∃ i k : Nat, i ≤ m ∧ nv = .int .i64 k ∧ iv = .int .i64 i ∧ Hid (k = (L.take i).countP (· == 10) ∧ k ≤ i) ∧ wr = w4) (fun _ iv _ => m - (intOf iv).toNat)
      case atStart => exact ⟨0, 0, by omega, rfl, rfl, Lib.hid ⟨by simp, by omega⟩, rfl⟩
      case round =>
        obtain ⟨i, k, hi, rfl, rfl, hC, rfl⟩ := hrel
        by_cases hlt : i < m
        · obtain ⟨c, hc⟩ : ∃ c, L[i]? = some c := ⟨_, List.getElem?_eq_getElem (by have := HLM.out; omega)⟩
          obtain ⟨l2, hb2⟩ := HAT.out i c hc
          have hck : (L.take (i + 1)).countP (· == 10) = (L.take i).countP (· == 10) + (if c = 10 then 1 else 0) := by
            rw [List.take_add_one, hc, List.countP_append]
            by_cases h : c = 10
            · subst h; simp
            · simp [h]
          obtain ⟨n, hn⟩ : ∃ n, c.toNat = n := ⟨_, rfl⟩
          rw [hn] at hb2
          have i1 : (0 : Int) ≤ (i : Int) := by omega
          have i2 : (i : Int) < (m : Int) := by omega
          have hki := hC.out.2
          by_cases h10 : n = 10
          · subst h10
            obtain rfl : c = 10 := UInt8.toNat_inj.1 hn
            have C2 := Lib.hid (show k + 1 = (L.take (i + 1)).countP (· == 10) ∧ k + 1 ≤ i + 1 from ⟨by rw [hck, if_pos rfl, hC.out.1], by omega⟩)
            clear hck hc hn
            go_wp2_with fail
            go_roundw
            case rel => exact ⟨i + 1, k + 1, by omega, by go_num, by go_num, C2, trivial⟩
            case measure => simp [intOf]; omega
          · have g1 : ((n : Int) == 10) = false := by simp; omega
            have C2 := Lib.hid (show k = (L.take (i + 1)).countP (· == 10) ∧ k ≤ i + 1 from ⟨by rw [hck, if_neg (fun h => h10 (by rw [← hn, h]; rfl)), hC.out.1]; rfl, by omega⟩)
            clear hck hc hn h10
            go_wp2_with fail
            go_roundw
            case rel => exact ⟨i + 1, k, by omega, rfl, by go_num, C2, trivial⟩
            case measure => simp [intOf]; omega
        · obtain rfl : m = i := by omega
          have hk : k = nw + nk + 1 + ne := by
            have h1 := hC.out.1
            rw [List.take_of_length_le (by have := HLM.out; omega), HCT.out] at h1
            exact h1
          have hzz := HZ.out
          have e1 : IntKind.i64.wrap ((nw : Int) + (nk : Int)) = (nw : Int) + (nk : Int) := by rw [IntWalk.i64_in _ (by omega)]
          have e2 : IntKind.i64.wrap ((nw : Int) + (nk : Int) + 1) = (nw : Int) + (nk : Int) + 1 := by rw [IntWalk.i64_in _ (by omega)]
          have e3 : IntKind.i64.wrap ((nw : Int) + (nk : Int) + 1 + (ne : Int)) = (k : Int) := by rw [IntWalk.i64_in _ (by omega)]; omega
          clear hk hC
          go_wp2_with fail
          refine (AW.out _ B4.out).mono ?_
          rintro e w5 ⟨rfl, hb5⟩
          go_wp2_with fail
          go_ret
          exact ⟨rfl, hb5⟩
theorem scriptLines_walk {H : Type} {enc : TypeId × Value → H} {laid : List (String × DataW Unit)} (W : World) (base : Nat) (v0 v1 : Value) (d0 d1 : DataW H) (p0 p1 : List MemPlace)
    (h0 : DataW.Trod enc Tryd.prog W 0 (fun _ => true) true 30 v0 d0 p0) (h1 : DataW.Trod enc Tryd.prog W 0 (fun _ => true) true 31 v1 d1 p1)
    (o0 : Value.okWide Tryd.prog W .any base 30 v0) (o1 : Value.okWide Tryd.prog W .any base 31 v1) (hL : laidMetH Tryd.prog laid W) (hsh : W.ShapedOpen Tryd.prog)
    (hT : (laid.filter fun x => x.1 == "internal/strconv.uint64pow10") = [("internal/strconv.uint64pow10", Lib.tabData .u64 Lib.pow10Tab)] := by kernel_rfl) :
    Calls Tryd.prog 7 #[v0, v1] W fun e w' => e = .returned (.bool true) ∧ RowKit.Below W.heap.size W w' := by
  obtain ⟨c, rfl, hc⟩ := open_cfg o0 h0
  obtain ⟨a, n, cp, es, rfl, he, hn, hes⟩ := open_evs_arg o1 h1
  obtain ⟨q1, q2, q3, q4, q5, q6⟩ := cfg_bounds hc
  exact scriptLines_any c.wa c.ka a c.wn c.kn n c.wc c.kc cp c.W c.C c.S c.B c.L c.H c.F c.P c.J c.N c.ws c.ks es W q1 q2 he (tab10_of hL hT) (maxL_of hsh) q3 q4 q5 q6 hn hes
end Go.Proofs.YtmddnklafplikaaDoor
namespace Go.Proofs.YtmddnklafplikaaDoor
open Go.RowKit
set_option linter.unusedVariables false
set_option maxRecDepth 20000
set_option maxRecDepth 100000 in
set_option maxHeartbeats 6400000 in
theorem scriptBack_any (wa ka ea : Option Addr) (nw nk ne wc kc ec : Nat) (a0 a1 a2 a3 a4 a5 a6 a7 a8 a9 : Int) (ws : List Tx) (ks : List KV) (es : List EvP) (s : ByteArray) (w : World)
    (hw : HoldsT w wa nw ws) (hk : HoldsK w ka nk ks) (he : HoldsEv w ea ne es) (ht : Tab10 w) (hm : MaxL w) (hss : s.size ≤ 9223372036854775807)
    (hn : nw ≤ 9223372036854775807) (hs : ∀ t ∈ ws, t.size ≤ 9223372036854775807) (hnk : nk ≤ 9223372036854775807) (hks : ∀ k ∈ ks, k.2.size ≤ 9223372036854775807) (hne : ne ≤ 9223372036854775807) (hes : ∀ x ∈ es, x.text.size ≤ 9223372036854775807) :
    Calls Tryd.prog 5 #[.agg #[.slice wa nw wc, .slice ka nk kc, .int .i64 a0, .int .i64 a1, .int .i64 a2, .int .i64 a3, .int .i64 a4, .int .i64 a5, .int .i64 a6, .int .i64 a7, .int .i64 a8, .int .i64 a9], .slice ea ne ec, .string s] w fun e w' => e = .returned (.bool true) ∧ Below w.heap.size w w' := by
  have AW := Lib.hid (fun w3 (hb : Below w.heap.size w w3) => (awake29_any w3 (hm.below hb (Nat.le_refl _))).mono (fun e w' h => (show e = .returned (.bool true) ∧ Below w.heap.size w w' from ⟨h.1, hb.trans (h.2.mono hb.size)⟩)))
  have B1 := Lib.hid (below_one w (.cells #[.slice wa nw wc, .slice ka nk kc, .int .i64 a0, .int .i64 a1, .int .i64 a2, .int .i64 a3, .int .i64 a4, .int .i64 a5, .int .i64 a6, .int .i64 a7, .int .i64 a8, .int .i64 a9] 30))
  obtain ⟨q, hq⟩ : ∃ q, w.heap.size = q := ⟨_, rfl⟩
  have CB := Lib.hid (show (w.alloc (.cells #[.slice wa nw wc, .slice ka nk kc, .int .i64 a0, .int .i64 a1, .int .i64 a2, .int .i64 a3, .int .i64 a4, .int .i64 a5, .int .i64 a6, .int .i64 a7, .int .i64 a8, .int .i64 a9] 30)).heap[q]? = some (.cells #[.slice wa nw wc, .slice ka nk kc, .int .i64 a0, .int .i64 a1, .int .i64 a2, .int .i64 a3, .int .i64 a4, .int .i64 a5, .int .i64 a6, .int .i64 a7, .int .i64 a8, .int .i64 a9] 30 (0, 0)) from by rw [← hq]; exact heap_alloc_new w _)
  have CG := Lib.hid (fun (w' : World) (hb : Below w.heap.size w w') => greatK_any wa ka nw nk wc kc a0 a1 a2 a3 a4 a5 a6 a7 a8 a9 ws ks w' (hw.below hb) (hk.below hb) hn hs hnk hks)
  have CE := Lib.hid (fun (w' : World) (hb : Below w.heap.size w w') => greatE_any ea ne ec es w' (he.below hb) hne hes)
  have HLN := Lib.hid (show ws.length = nw ∧ ks.length = nk ∧ es.length = ne from ⟨hw.len, hk.1, he.1⟩)
  have HW := Lib.hid (fun (w' : World) (hb : Below w.heap.size w w') => hw.below hb)
  have HK := Lib.hid (fun (w' : World) (hb : Below w.heap.size w w') => hk.below hb)
  have HE := Lib.hid (fun (w' : World) (hb : Below w.heap.size w w') => he.below hb)
  have HTB := Lib.hid (fun (w' : World) (hb : Below w.heap.size w w') => ht.below hb (Nat.le_refl _))
  have HM := Lib.hid (fun (w' : World) (hb : Below w.heap.size w w') => hm.below hb (Nat.le_refl _))
  obtain ⟨n, hsn⟩ : ∃ n, s.size = n := ⟨_, rfl⟩
  rw [hsn] at hss
  have HSN := Lib.hid hsn
  clear hw hk he ht hm hs hks hes hn hnk hne
  go_enter Tryd.func5, Tryd.ntmps5
  go_wp2_with fail
  refine (CG.out _ B1.out).mono ?_
  rintro e w2 ⟨z, rfl, hz, hb2⟩
  have B2 := Lib.hid (below_next B1.out hb2)
  have K2 := Lib.hid (show w2.heap[q]? = some (.cells #[.slice wa nw wc, .slice ka nk kc, .int .i64 a0, .int .i64 a1, .int .i64 a2, .int .i64 a3, .int .i64 a4, .int .i64 a5, .int .i64 a6, .int .i64 a7, .int .i64 a8, .int .i64 a9] 30 (0, 0)) from (hb2.block _ (lt_of_heap29 CB.out)).trans CB.out)
  clear hb2 CG CB
  cases z with
  | true =>
    go_wp2_with fail
    refine (AW.out _ B2.out).mono ?_
    rintro e wz ⟨rfl, hbz⟩
    go_wp2_with fail
    go_ret
    exact ⟨rfl, hbz⟩
  | false =>
    obtain ⟨hz1, hz2⟩ := hz rfl
    clear hz
    go_wp2_with fail
    refine (CE.out _ B2.out).mono ?_
    rintro e w3 ⟨z, rfl, hz, rfl⟩
    cases z with
    | true =>
      go_wp2_with fail
      refine (AW.out _ B2.out).mono ?_
      rintro e wz ⟨rfl, hbz⟩
      go_wp2_with fail
      go_ret
      exact ⟨rfl, hbz⟩
    | false =>
      have hz3 := hz rfl
      by_cases h20 : 20000 < n
      · have d1 : decide ((n : Int) > 20000) = true := decide_eq_true (by omega)
        have d2 : decide (20000 < n) = true := decide_eq_true h20
        clear hz hz1 hz2 hz3 h20
        go_wp2_with fail
        refine (AW.out _ B2.out).mono ?_
        rintro e wz ⟨rfl, hbz⟩
        go_wp2_with fail
        go_ret
        exact ⟨rfl, hbz⟩
      have d1 : decide ((n : Int) > 20000) = false := decide_eq_false (by omega)
      have d2 : decide (20000 < n) = false := decide_eq_false h20
      have HZ := Lib.hid (show nw ≤ 80 ∧ nk ≤ 10 ∧ ne ≤ 300 from by have := HLN.out; omega)
      obtain ⟨t, k, hcase, -, hC⟩ := print_lits nw nk ne a0 a1 a2 a3 a4 a5 a6 a7 a8 a9 ws ks es (by have := HZ.out; omega) (by have := HZ.out; omega) (by have := HZ.out; omega) (fun t h => by have := hz1.2 t h; omega) (fun t h => by have := hz2.2 t h; omega) (fun t h => by have := hz3.2 t h; omega) (fun hm => printB_small ws ks [a0, a1, a2, a3, a4, a5, a6, a7, a8, a9] es hz1 hz2 rfl hz3 hm)
      have P1 := Lib.hid (hC wa ka ea wc kc ec)
      have HCA := Lib.hid hcase
      clear hz hz1 hz2 hz3 CE hC hcase
      obtain ⟨st2, nw2, nk2, ne2, k3, f2, b0, b1, b2, b3, b4, b5, b6, b7, b8, b9, hp2, hns2, hl1, hl2, hl3, hC2⟩ := parse_lits s (by omega)
      have C2 := Lib.hid hC2
      have hbd := parseF_len s.data.toList
      have hmay := parseF_may s.data.toList
      rw [hp2] at hbd hmay
      have hsl : s.data.toList.length = n := by rw [← HSN.out]; exact Array.length_toList
      rw [hsl] at hbd
      have hbd2 : lenPS st2 ≤ 200010 := by have h9 : lenPS st2 ≤ 10 * (n + 1) := hbd; omega
      obtain ⟨o1, o2, o3, o4, o5, o6⟩ := lenPS_bounds hbd2 hmay.1
      have hpl := printB_lenPS st2 hmay.1 hmay.2
      obtain ⟨ws2, ks2, ns2, es2⟩ := st2
      obtain rfl : ns2 = [b0, b1, b2, b3, b4, b5, b6, b7, b8, b9] := hns2
      have LW2 := Lib.hid (show ws2.length = nw2 ∧ ks2.length = nk2 ∧ es2.length = ne2 from ⟨hl1, hl2, hl3⟩)
      have LB2 := Lib.hid (show nw2 ≤ 200010 ∧ nk2 ≤ 200010 ∧ ne2 ≤ 200010 from ⟨hl1 ▸ o1, hl2 ▸ o2, hl3 ▸ o3⟩)
      obtain ⟨u, k2, hcu, hmu, hCu⟩ := print_lits nw2 nk2 ne2 b0 b1 b2 b3 b4 b5 b6 b7 b8 b9 ws2 ks2 es2 (by have := LB2.out; omega) (by have := LB2.out; omega) (by have := LB2.out; omega) (fun t h => by have := o4 t h; omega) (fun t h => by have := o5 t h; omega) (fun t h => by have := o6 t h; omega) (fun _ => by omega)
      have P2 := Lib.hid hCu
      have P2C := Lib.hid hcu
      have P2M := Lib.hid (hmu hmay.1)
      obtain ⟨st3, nw3, nk3, ne3, k5, f5, c0, c1, c2, c3, c4, c5, c6, c7, c8, c9, -, -, -, -, -, hC3⟩ := parse_lits (⟨#[]⟩ : ByteArray) (by show 0 ≤ 300000; omega)
      have C3 := Lib.hid hC3
      clear hp2 hl1 hl2 hl3 hC2 hbd hmay hsl hbd2 o1 o2 o3 o4 o5 o6 hpl hcu hmu hCu hC3 h20
      have f0 : w3.cell? ⟨q, 0, none⟩ = some (.slice wa nw wc) := by rw [Lib.cell_of_heap K2.out]; rfl
      have f1 : w3.cell? ⟨q, 1, none⟩ = some (.slice ka nk kc) := by rw [Lib.cell_of_heap K2.out]; rfl
      have f2 : w3.cell? ⟨q, 2, none⟩ = some (.int .i64 a0) := by rw [Lib.cell_of_heap K2.out]; rfl
      have f3 : w3.cell? ⟨q, 3, none⟩ = some (.int .i64 a1) := by rw [Lib.cell_of_heap K2.out]; rfl
      have f4 : w3.cell? ⟨q, 4, none⟩ = some (.int .i64 a2) := by rw [Lib.cell_of_heap K2.out]; rfl
      have f5 : w3.cell? ⟨q, 5, none⟩ = some (.int .i64 a3) := by rw [Lib.cell_of_heap K2.out]; rfl
      have f6 : w3.cell? ⟨q, 6, none⟩ = some (.int .i64 a4) := by rw [Lib.cell_of_heap K2.out]; rfl
      have f7 : w3.cell? ⟨q, 7, none⟩ = some (.int .i64 a5) := by rw [Lib.cell_of_heap K2.out]; rfl
      have f8 : w3.cell? ⟨q, 8, none⟩ = some (.int .i64 a6) := by rw [Lib.cell_of_heap K2.out]; rfl
      have f9 : w3.cell? ⟨q, 9, none⟩ = some (.int .i64 a7) := by rw [Lib.cell_of_heap K2.out]; rfl
      have f10 : w3.cell? ⟨q, 10, none⟩ = some (.int .i64 a8) := by rw [Lib.cell_of_heap K2.out]; rfl
      have f11 : w3.cell? ⟨q, 11, none⟩ = some (.int .i64 a9) := by rw [Lib.cell_of_heap K2.out]; rfl
      have CP1 := Lib.hid (P1.out w3 (HW.out _ B2.out) (HK.out _ B2.out) (HE.out _ B2.out) (HTB.out _ B2.out))
      go_wp2_with fail
      refine CP1.out.mono ?_
      rintro e w4 ⟨rfl, hb4⟩
      have B4 := Lib.hid (B2.out.trans (hb4.mono B2.out.size))
      have K4 := Lib.hid (show w4.heap[q]? = some (.cells #[.slice wa nw wc, .slice ka nk kc, .int .i64 a0, .int .i64 a1, .int .i64 a2, .int .i64 a3, .int .i64 a4, .int .i64 a5, .int .i64 a6, .int .i64 a7, .int .i64 a8, .int .i64 a9] 30 (0, 0)) from (hb4.block _ (lt_of_heap29 K2.out)).trans K2.out)
      clear hb4 CP1 f0 f1 f2 f3 f4 f5 f6 f7 f8 f9 f10 f11 K2
      rcases HCA.out with ⟨hk0, hpt, hts⟩ | ⟨hk0, hu⟩
      case inr =>
        subst hu
        have g1 : ((k : Int) == 0) = false := by simp; omega
        clear hk0
        go_wp2_with fail
        refine (C2.out _ (HM.out _ B4.out)).mono ?_
        rintro e y1 ⟨va, la, fa, vc, lc, fc, rfl, hT, hK, hE, -, hb1⟩
        go_upto_region 11 with fail
        have hbb := below_one y1 (.cells #[.slice va nw2 vc, .slice la nk2 lc, .int .i64 b0, .int .i64 b1, .int .i64 b2, .int .i64 b3, .int .i64 b4, .int .i64 b5, .int .i64 b6, .int .i64 b7, .int .i64 b8, .int .i64 b9] 30)
        have hcc := heap_alloc_new y1 (.cells #[.slice va nw2 vc, .slice la nk2 lc, .int .i64 b0, .int .i64 b1, .int .i64 b2, .int .i64 b3, .int .i64 b4, .int .i64 b5, .int .i64 b6, .int .i64 b7, .int .i64 b8, .int .i64 b9] 30)
        have Y2 := Lib.hid ((B4.out.trans (hb1.mono B4.out.size)).trans (hbb.mono (B4.out.trans (hb1.mono B4.out.size)).size))
        have YT := Lib.hid (hT.below hbb)
        have YK := Lib.hid (hK.below hbb)
        have YE := Lib.hid (hE.below hbb)
        obtain ⟨p, hp⟩ : ∃ p, y1.heap.size = p := ⟨_, rfl⟩
        rw [hp] at hcc ⊢
        have YC := Lib.hid hcc
        clear hbb hcc hT hK hE hb1
        generalize y1.alloc (.cells #[.slice va nw2 vc, .slice la nk2 lc, .int .i64 b0, .int .i64 b1, .int .i64 b2, .int .i64 b3, .int .i64 b4, .int .i64 b5, .int .i64 b6, .int .i64 b7, .int .i64 b8, .int .i64 b9] 30) = y2 at *
        clear hp
        by_cases hf : f2 = 0
        case neg =>
          have e1 : ((f2 : Int) != 0) = true := by simp; omega
          clear hf
          go_wp2_with fail
          refine (AW.out _ Y2.out).mono ?_
          rintro e wz ⟨rfl, hbz⟩
          go_wp2_with fail
          go_ret
          exact ⟨rfl, hbz⟩
        subst hf
        have g0 : y2.cell? ⟨p, 0, none⟩ = some (.slice va nw2 vc) := by rw [Lib.cell_of_heap YC.out]; rfl
        have g1 : y2.cell? ⟨p, 1, none⟩ = some (.slice la nk2 lc) := by rw [Lib.cell_of_heap YC.out]; rfl
        have g2 : y2.cell? ⟨p, 2, none⟩ = some (.int .i64 b0) := by rw [Lib.cell_of_heap YC.out]; rfl
        have g3 : y2.cell? ⟨p, 3, none⟩ = some (.int .i64 b1) := by rw [Lib.cell_of_heap YC.out]; rfl
        have g4 : y2.cell? ⟨p, 4, none⟩ = some (.int .i64 b2) := by rw [Lib.cell_of_heap YC.out]; rfl
        have g5 : y2.cell? ⟨p, 5, none⟩ = some (.int .i64 b3) := by rw [Lib.cell_of_heap YC.out]; rfl
        have g6 : y2.cell? ⟨p, 6, none⟩ = some (.int .i64 b4) := by rw [Lib.cell_of_heap YC.out]; rfl
        have g7 : y2.cell? ⟨p, 7, none⟩ = some (.int .i64 b5) := by rw [Lib.cell_of_heap YC.out]; rfl
        have g8 : y2.cell? ⟨p, 8, none⟩ = some (.int .i64 b6) := by rw [Lib.cell_of_heap YC.out]; rfl
        have g9 : y2.cell? ⟨p, 9, none⟩ = some (.int .i64 b7) := by rw [Lib.cell_of_heap YC.out]; rfl
        have g10 : y2.cell? ⟨p, 10, none⟩ = some (.int .i64 b8) := by rw [Lib.cell_of_heap YC.out]; rfl
        have g11 : y2.cell? ⟨p, 11, none⟩ = some (.int .i64 b9) := by rw [Lib.cell_of_heap YC.out]; rfl
        have CP3 := Lib.hid (P2.out va la fa vc lc fc y2 YT.out YK.out YE.out (HTB.out _ Y2.out))
        go_wp2_with fail
        refine CP3.out.mono ?_
        rintro e y3 ⟨rfl, hb3⟩
        have Y3 := Lib.hid (Y2.out.trans (hb3.mono Y2.out.size))
        have ZC := Lib.hid (show y3.heap[p]? = some (.cells #[.slice va nw2 vc, .slice la nk2 lc, .int .i64 b0, .int .i64 b1, .int .i64 b2, .int .i64 b3, .int .i64 b4, .int .i64 b5, .int .i64 b6, .int .i64 b7, .int .i64 b8, .int .i64 b9] 30 (0, 0)) from (hb3.block _ (lt_of_heap29 YC.out)).trans YC.out)
        have ZT := Lib.hid (YT.out.below hb3)
        have ZK := Lib.hid (YK.out.below hb3)
        have ZE := Lib.hid (YE.out.below hb3)
        clear hb3 CP3 g0 g1 g2 g3 g4 g5 g6 g7 g8 g9 g10 g11
        rcases P2C.out with ⟨hk0, hpu, hus⟩ | ⟨hk0, hu⟩
        · subst hk0
          have CU := Lib.hid (parse_of _ nw2 nk2 ne2 b0 b1 b2 b3 b4 b5 b6 b7 b8 b9 u (by omega) hpu rfl LW2.out.1 LW2.out.2.1 LW2.out.2.2)
          clear hpu hus
          go_wp2_with fail
          refine (CU.out _ (HM.out _ Y3.out)).mono ?_
          rintro e y4 ⟨xa, ya, za, xc, yc, zc, rfl, hT, hK, hE, -, hb4⟩
          go_upto_region 15 with fail
          have hbb := below_one y4 (.cells #[.slice xa nw2 xc, .slice ya nk2 yc, .int .i64 b0, .int .i64 b1, .int .i64 b2, .int .i64 b3, .int .i64 b4, .int .i64 b5, .int .i64 b6, .int .i64 b7, .int .i64 b8, .int .i64 b9] 30)
          have hcc := heap_alloc_new y4 (.cells #[.slice xa nw2 xc, .slice ya nk2 yc, .int .i64 b0, .int .i64 b1, .int .i64 b2, .int .i64 b3, .int .i64 b4, .int .i64 b5, .int .i64 b6, .int .i64 b7, .int .i64 b8, .int .i64 b9] 30)
          have hb5 := hb4.trans (hbb.mono hb4.size)
          have Y5 := Lib.hid (Y3.out.trans (hb5.mono Y3.out.size))
          have XT := Lib.hid (hT.below hbb)
          have XK := Lib.hid (hK.below hbb)
          have XE := Lib.hid (hE.below hbb)
          have WC := Lib.hid (show (y4.alloc (.cells #[.slice xa nw2 xc, .slice ya nk2 yc, .int .i64 b0, .int .i64 b1, .int .i64 b2, .int .i64 b3, .int .i64 b4, .int .i64 b5, .int .i64 b6, .int .i64 b7, .int .i64 b8, .int .i64 b9] 30)).heap[p]? = some (.cells #[.slice va nw2 vc, .slice la nk2 lc, .int .i64 b0, .int .i64 b1, .int .i64 b2, .int .i64 b3, .int .i64 b4, .int .i64 b5, .int .i64 b6, .int .i64 b7, .int .i64 b8, .int .i64 b9] 30 (0, 0)) from (hb5.block _ (lt_of_heap29 ZC.out)).trans ZC.out)
          have WT := Lib.hid (ZT.out.below hb5)
          have WK := Lib.hid (ZK.out.below hb5)
          have WE := Lib.hid (ZE.out.below hb5)
          obtain ⟨r, hr⟩ : ∃ r, y4.heap.size = r := ⟨_, rfl⟩
          rw [hr] at hcc ⊢
          have XC := Lib.hid hcc
          clear hbb hcc hT hK hE hb4 hb5
          generalize y4.alloc (.cells #[.slice xa nw2 xc, .slice ya nk2 yc, .int .i64 b0, .int .i64 b1, .int .i64 b2, .int .i64 b3, .int .i64 b4, .int .i64 b5, .int .i64 b6, .int .i64 b7, .int .i64 b8, .int .i64 b9] 30) = y5 at *
          clear hr
          have CS := Lib.hid (sameConfig_yes xa va ya la nw2 nk2 xc vc yc lc _ _ b0 b1 b2 b3 b4 b5 b6 b7 b8 b9 y5 XT.out WT.out XK.out WK.out (by have := LB2.out; omega) (by have := LB2.out; omega))
          have CV := Lib.hid (fun (w' : World) (hb : Below y5.heap.size y5 w') => sameEvents_yes za fa ne2 zc fc _ w' (XE.out.below hb) (WE.out.below hb) (by have := LB2.out; omega))
          have g0 : y5.cell? ⟨r, 0, none⟩ = some (.slice xa nw2 xc) := by rw [Lib.cell_of_heap XC.out]; rfl
          have g1 : y5.cell? ⟨r, 1, none⟩ = some (.slice ya nk2 yc) := by rw [Lib.cell_of_heap XC.out]; rfl
          have g2 : y5.cell? ⟨r, 2, none⟩ = some (.int .i64 b0) := by rw [Lib.cell_of_heap XC.out]; rfl
          have g3 : y5.cell? ⟨r, 3, none⟩ = some (.int .i64 b1) := by rw [Lib.cell_of_heap XC.out]; rfl
          have g4 : y5.cell? ⟨r, 4, none⟩ = some (.int .i64 b2) := by rw [Lib.cell_of_heap XC.out]; rfl
          have g5 : y5.cell? ⟨r, 5, none⟩ = some (.int .i64 b3) := by rw [Lib.cell_of_heap XC.out]; rfl
          have g6 : y5.cell? ⟨r, 6, none⟩ = some (.int .i64 b4) := by rw [Lib.cell_of_heap XC.out]; rfl
          have g7 : y5.cell? ⟨r, 7, none⟩ = some (.int .i64 b5) := by rw [Lib.cell_of_heap XC.out]; rfl
          have g8 : y5.cell? ⟨r, 8, none⟩ = some (.int .i64 b6) := by rw [Lib.cell_of_heap XC.out]; rfl
          have g9 : y5.cell? ⟨r, 9, none⟩ = some (.int .i64 b7) := by rw [Lib.cell_of_heap XC.out]; rfl
          have g10 : y5.cell? ⟨r, 10, none⟩ = some (.int .i64 b8) := by rw [Lib.cell_of_heap XC.out]; rfl
          have g11 : y5.cell? ⟨r, 11, none⟩ = some (.int .i64 b9) := by rw [Lib.cell_of_heap XC.out]; rfl
          have h0 : y5.cell? ⟨p, 0, none⟩ = some (.slice va nw2 vc) := by rw [Lib.cell_of_heap WC.out]; rfl
          have h1 : y5.cell? ⟨p, 1, none⟩ = some (.slice la nk2 lc) := by rw [Lib.cell_of_heap WC.out]; rfl
          have h2 : y5.cell? ⟨p, 2, none⟩ = some (.int .i64 b0) := by rw [Lib.cell_of_heap WC.out]; rfl
          have h3 : y5.cell? ⟨p, 3, none⟩ = some (.int .i64 b1) := by rw [Lib.cell_of_heap WC.out]; rfl
          have h4 : y5.cell? ⟨p, 4, none⟩ = some (.int .i64 b2) := by rw [Lib.cell_of_heap WC.out]; rfl
          have h5 : y5.cell? ⟨p, 5, none⟩ = some (.int .i64 b3) := by rw [Lib.cell_of_heap WC.out]; rfl
          have h6 : y5.cell? ⟨p, 6, none⟩ = some (.int .i64 b4) := by rw [Lib.cell_of_heap WC.out]; rfl
          have h7 : y5.cell? ⟨p, 7, none⟩ = some (.int .i64 b5) := by rw [Lib.cell_of_heap WC.out]; rfl
          have h8 : y5.cell? ⟨p, 8, none⟩ = some (.int .i64 b6) := by rw [Lib.cell_of_heap WC.out]; rfl
          have h9 : y5.cell? ⟨p, 9, none⟩ = some (.int .i64 b7) := by rw [Lib.cell_of_heap WC.out]; rfl
          have h10 : y5.cell? ⟨p, 10, none⟩ = some (.int .i64 b8) := by rw [Lib.cell_of_heap WC.out]; rfl
          have h11 : y5.cell? ⟨p, 11, none⟩ = some (.int .i64 b9) := by rw [Lib.cell_of_heap WC.out]; rfl
          go_wp2_with fail
          refine CS.out.mono ?_
          rintro e y6 ⟨rfl, hb6⟩
          have Y6 := Lib.hid (Y5.out.trans (hb6.mono Y5.out.size))
          have CV2 := Lib.hid (CV.out _ hb6)
          clear hb6 CV g0 g1 g2 g3 g4 g5 g6 g7 g8 g9 g10 g11 h0 h1 h2 h3 h4 h5 h6 h7 h8 h9 h10 h11
          go_wp2_with fail
          refine CV2.out.mono ?_
          rintro e y7 ⟨rfl, hb7⟩
          have Y7 := Lib.hid (Y6.out.trans (hb7.mono Y6.out.size))
          clear hb7
          go_wp2_with fail
          refine (AW.out _ Y7.out).mono ?_
          rintro e wz ⟨rfl, hbz⟩
          go_wp2_with fail
          go_ret
          exact ⟨rfl, hbz⟩
        · obtain rfl : k2 = 3 := by rcases P2M.out with h | h <;> omega
          subst hu
          go_wp2_with fail
          refine (C3.out _ (HM.out _ Y3.out)).mono ?_
          rintro e y4 ⟨xa, ya, za, xc, yc, zc, rfl, hT, hK, hE, -, hb4⟩
          go_upto_region 15 with fail
          have hbb := below_one y4 (.cells #[.slice xa nw3 xc, .slice ya nk3 yc, .int .i64 c0, .int .i64 c1, .int .i64 c2, .int .i64 c3, .int .i64 c4, .int .i64 c5, .int .i64 c6, .int .i64 c7, .int .i64 c8, .int .i64 c9] 30)
          have hb5 := hb4.trans (hbb.mono hb4.size)
          have Y5 := Lib.hid (Y3.out.trans (hb5.mono Y3.out.size))
          obtain ⟨r, hr⟩ : ∃ r, y4.heap.size = r := ⟨_, rfl⟩
          rw [hr]
          clear hbb hT hK hE hb4 hb5
          generalize y4.alloc (.cells #[.slice xa nw3 xc, .slice ya nk3 yc, .int .i64 c0, .int .i64 c1, .int .i64 c2, .int .i64 c3, .int .i64 c4, .int .i64 c5, .int .i64 c6, .int .i64 c7, .int .i64 c8, .int .i64 c9] 30) = y5 at *
          clear hr
          go_wp2_with fail
          refine (AW.out _ Y5.out).mono ?_
          rintro e wz ⟨rfl, hbz⟩
          go_wp2_with fail
          go_ret
          exact ⟨rfl, hbz⟩
      subst hk0
      have CT := Lib.hid (parse_of _ nw nk ne a0 a1 a2 a3 a4 a5 a6 a7 a8 a9 t (by omega) hpt rfl HLN.out.1 HLN.out.2.1 HLN.out.2.2)
      clear hpt hts
      go_wp2_with fail
      refine (CT.out _ (HM.out _ B4.out)).mono ?_
      rintro e w5 ⟨ma, na, oa, mc, nc, oc, rfl, hT, hK, hE, -, hb5⟩
      go_upto_region 6 with fail
      have hbb := below_one w5 (.cells #[.slice ma nw mc, .slice na nk nc, .int .i64 a0, .int .i64 a1, .int .i64 a2, .int .i64 a3, .int .i64 a4, .int .i64 a5, .int .i64 a6, .int .i64 a7, .int .i64 a8, .int .i64 a9] 30)
      have hcc := heap_alloc_new w5 (.cells #[.slice ma nw mc, .slice na nk nc, .int .i64 a0, .int .i64 a1, .int .i64 a2, .int .i64 a3, .int .i64 a4, .int .i64 a5, .int .i64 a6, .int .i64 a7, .int .i64 a8, .int .i64 a9] 30)
      have hb6 := hb5.trans (hbb.mono hb5.size)
      have B6 := Lib.hid (B4.out.trans (hb6.mono B4.out.size))
      have XT := Lib.hid (hT.below hbb)
      have XK := Lib.hid (hK.below hbb)
      have XE := Lib.hid (hE.below hbb)
      have K6 := Lib.hid (show (w5.alloc (.cells #[.slice ma nw mc, .slice na nk nc, .int .i64 a0, .int .i64 a1, .int .i64 a2, .int .i64 a3, .int .i64 a4, .int .i64 a5, .int .i64 a6, .int .i64 a7, .int .i64 a8, .int .i64 a9] 30)).heap[q]? = some (.cells #[.slice wa nw wc, .slice ka nk kc, .int .i64 a0, .int .i64 a1, .int .i64 a2, .int .i64 a3, .int .i64 a4, .int .i64 a5, .int .i64 a6, .int .i64 a7, .int .i64 a8, .int .i64 a9] 30 (0, 0)) from (hb6.block _ (lt_of_heap29 K4.out)).trans K4.out)
      obtain ⟨r, hr⟩ : ∃ r, w5.heap.size = r := ⟨_, rfl⟩
      rw [hr] at hcc ⊢
      have XC := Lib.hid hcc
      clear hbb hcc hT hK hE hb5 hb6
      generalize w5.alloc (.cells #[.slice ma nw mc, .slice na nk nc, .int .i64 a0, .int .i64 a1, .int .i64 a2, .int .i64 a3, .int .i64 a4, .int .i64 a5, .int .i64 a6, .int .i64 a7, .int .i64 a8, .int .i64 a9] 30) = w6 at *
      clear hr
      have CS := Lib.hid (sameConfig_yes wa ma ka na nw nk wc mc kc nc _ _ a0 a1 a2 a3 a4 a5 a6 a7 a8 a9 w6 (HW.out _ B6.out) XT.out (HK.out _ B6.out) XK.out (by have := HZ.out; omega) (by have := HZ.out; omega))
      have CV := Lib.hid (fun (w' : World) (hb : Below w6.heap.size w6 w') => sameEvents_yes ea oa ne ec oc _ w' (HE.out _ (B6.out.trans (hb.mono B6.out.size))) (XE.out.below hb) (by have := HZ.out; omega))
      have g0 : w6.cell? ⟨r, 0, none⟩ = some (.slice ma nw mc) := by rw [Lib.cell_of_heap XC.out]; rfl
      have g1 : w6.cell? ⟨r, 1, none⟩ = some (.slice na nk nc) := by rw [Lib.cell_of_heap XC.out]; rfl
      have g2 : w6.cell? ⟨r, 2, none⟩ = some (.int .i64 a0) := by rw [Lib.cell_of_heap XC.out]; rfl
      have g3 : w6.cell? ⟨r, 3, none⟩ = some (.int .i64 a1) := by rw [Lib.cell_of_heap XC.out]; rfl
      have g4 : w6.cell? ⟨r, 4, none⟩ = some (.int .i64 a2) := by rw [Lib.cell_of_heap XC.out]; rfl
      have g5 : w6.cell? ⟨r, 5, none⟩ = some (.int .i64 a3) := by rw [Lib.cell_of_heap XC.out]; rfl
      have g6 : w6.cell? ⟨r, 6, none⟩ = some (.int .i64 a4) := by rw [Lib.cell_of_heap XC.out]; rfl
      have g7 : w6.cell? ⟨r, 7, none⟩ = some (.int .i64 a5) := by rw [Lib.cell_of_heap XC.out]; rfl
      have g8 : w6.cell? ⟨r, 8, none⟩ = some (.int .i64 a6) := by rw [Lib.cell_of_heap XC.out]; rfl
      have g9 : w6.cell? ⟨r, 9, none⟩ = some (.int .i64 a7) := by rw [Lib.cell_of_heap XC.out]; rfl
      have g10 : w6.cell? ⟨r, 10, none⟩ = some (.int .i64 a8) := by rw [Lib.cell_of_heap XC.out]; rfl
      have g11 : w6.cell? ⟨r, 11, none⟩ = some (.int .i64 a9) := by rw [Lib.cell_of_heap XC.out]; rfl
      have h0 : w6.cell? ⟨q, 0, none⟩ = some (.slice wa nw wc) := by rw [Lib.cell_of_heap K6.out]; rfl
      have h1 : w6.cell? ⟨q, 1, none⟩ = some (.slice ka nk kc) := by rw [Lib.cell_of_heap K6.out]; rfl
      have h2 : w6.cell? ⟨q, 2, none⟩ = some (.int .i64 a0) := by rw [Lib.cell_of_heap K6.out]; rfl
      have h3 : w6.cell? ⟨q, 3, none⟩ = some (.int .i64 a1) := by rw [Lib.cell_of_heap K6.out]; rfl
      have h4 : w6.cell? ⟨q, 4, none⟩ = some (.int .i64 a2) := by rw [Lib.cell_of_heap K6.out]; rfl
      have h5 : w6.cell? ⟨q, 5, none⟩ = some (.int .i64 a3) := by rw [Lib.cell_of_heap K6.out]; rfl
      have h6 : w6.cell? ⟨q, 6, none⟩ = some (.int .i64 a4) := by rw [Lib.cell_of_heap K6.out]; rfl
      have h7 : w6.cell? ⟨q, 7, none⟩ = some (.int .i64 a5) := by rw [Lib.cell_of_heap K6.out]; rfl
      have h8 : w6.cell? ⟨q, 8, none⟩ = some (.int .i64 a6) := by rw [Lib.cell_of_heap K6.out]; rfl
      have h9 : w6.cell? ⟨q, 9, none⟩ = some (.int .i64 a7) := by rw [Lib.cell_of_heap K6.out]; rfl
      have h10 : w6.cell? ⟨q, 10, none⟩ = some (.int .i64 a8) := by rw [Lib.cell_of_heap K6.out]; rfl
      have h11 : w6.cell? ⟨q, 11, none⟩ = some (.int .i64 a9) := by rw [Lib.cell_of_heap K6.out]; rfl
      go_wp2_with fail
      refine CS.out.mono ?_
      rintro e w7 ⟨rfl, hb7⟩
      have B7 := Lib.hid (B6.out.trans (hb7.mono B6.out.size))
      have CV2 := Lib.hid (CV.out _ hb7)
      clear hb7 CV g0 g1 g2 g3 g4 g5 g6 g7 g8 g9 g10 g11 h0 h1 h2 h3 h4 h5 h6 h7 h8 h9 h10 h11
      go_wp2_with fail
      refine CV2.out.mono ?_
      rintro e w8 ⟨rfl, hb8⟩
      have B8 := Lib.hid (B7.out.trans (hb8.mono B7.out.size))
      clear hb8
      go_wp2_with fail
      refine (C2.out _ (HM.out _ B8.out)).mono ?_
      rintro e y1 ⟨va, la, fa, vc, lc, fc, rfl, hT, hK, hE, -, hb1⟩
      go_upto_region 11 with fail
      have hbb := below_one y1 (.cells #[.slice va nw2 vc, .slice la nk2 lc, .int .i64 b0, .int .i64 b1, .int .i64 b2, .int .i64 b3, .int .i64 b4, .int .i64 b5, .int .i64 b6, .int .i64 b7, .int .i64 b8, .int .i64 b9] 30)
      have hcc := heap_alloc_new y1 (.cells #[.slice va nw2 vc, .slice la nk2 lc, .int .i64 b0, .int .i64 b1, .int .i64 b2, .int .i64 b3, .int .i64 b4, .int .i64 b5, .int .i64 b6, .int .i64 b7, .int .i64 b8, .int .i64 b9] 30)
      have Y2 := Lib.hid ((B8.out.trans (hb1.mono B8.out.size)).trans (hbb.mono (B8.out.trans (hb1.mono B8.out.size)).size))
      have YT := Lib.hid (hT.below hbb)
      have YK := Lib.hid (hK.below hbb)
      have YE := Lib.hid (hE.below hbb)
      obtain ⟨p, hp⟩ : ∃ p, y1.heap.size = p := ⟨_, rfl⟩
      rw [hp] at hcc ⊢
      have YC := Lib.hid hcc
      clear hbb hcc hT hK hE hb1
      generalize y1.alloc (.cells #[.slice va nw2 vc, .slice la nk2 lc, .int .i64 b0, .int .i64 b1, .int .i64 b2, .int .i64 b3, .int .i64 b4, .int .i64 b5, .int .i64 b6, .int .i64 b7, .int .i64 b8, .int .i64 b9] 30) = y2 at *
      clear hp
      by_cases hf : f2 = 0
      case neg =>
        have e1 : ((f2 : Int) != 0) = true := by simp; omega
        clear hf
        go_wp2_with fail
        refine (AW.out _ Y2.out).mono ?_
        rintro e wz ⟨rfl, hbz⟩
        go_wp2_with fail
        go_ret
        exact ⟨rfl, hbz⟩
      subst hf
      have g0 : y2.cell? ⟨p, 0, none⟩ = some (.slice va nw2 vc) := by rw [Lib.cell_of_heap YC.out]; rfl
      have g1 : y2.cell? ⟨p, 1, none⟩ = some (.slice la nk2 lc) := by rw [Lib.cell_of_heap YC.out]; rfl
      have g2 : y2.cell? ⟨p, 2, none⟩ = some (.int .i64 b0) := by rw [Lib.cell_of_heap YC.out]; rfl
      have g3 : y2.cell? ⟨p, 3, none⟩ = some (.int .i64 b1) := by rw [Lib.cell_of_heap YC.out]; rfl
      have g4 : y2.cell? ⟨p, 4, none⟩ = some (.int .i64 b2) := by rw [Lib.cell_of_heap YC.out]; rfl
      have g5 : y2.cell? ⟨p, 5, none⟩ = some (.int .i64 b3) := by rw [Lib.cell_of_heap YC.out]; rfl
      have g6 : y2.cell? ⟨p, 6, none⟩ = some (.int .i64 b4) := by rw [Lib.cell_of_heap YC.out]; rfl
      have g7 : y2.cell? ⟨p, 7, none⟩ = some (.int .i64 b5) := by rw [Lib.cell_of_heap YC.out]; rfl
      have g8 : y2.cell? ⟨p, 8, none⟩ = some (.int .i64 b6) := by rw [Lib.cell_of_heap YC.out]; rfl
      have g9 : y2.cell? ⟨p, 9, none⟩ = some (.int .i64 b7) := by rw [Lib.cell_of_heap YC.out]; rfl
      have g10 : y2.cell? ⟨p, 10, none⟩ = some (.int .i64 b8) := by rw [Lib.cell_of_heap YC.out]; rfl
      have g11 : y2.cell? ⟨p, 11, none⟩ = some (.int .i64 b9) := by rw [Lib.cell_of_heap YC.out]; rfl
      have CP3 := Lib.hid (P2.out va la fa vc lc fc y2 YT.out YK.out YE.out (HTB.out _ Y2.out))
      go_wp2_with fail
      refine CP3.out.mono ?_
      rintro e y3 ⟨rfl, hb3⟩
      have Y3 := Lib.hid (Y2.out.trans (hb3.mono Y2.out.size))
      have ZC := Lib.hid (show y3.heap[p]? = some (.cells #[.slice va nw2 vc, .slice la nk2 lc, .int .i64 b0, .int .i64 b1, .int .i64 b2, .int .i64 b3, .int .i64 b4, .int .i64 b5, .int .i64 b6, .int .i64 b7, .int .i64 b8, .int .i64 b9] 30 (0, 0)) from (hb3.block _ (lt_of_heap29 YC.out)).trans YC.out)
      have ZT := Lib.hid (YT.out.below hb3)
      have ZK := Lib.hid (YK.out.below hb3)
      have ZE := Lib.hid (YE.out.below hb3)
      clear hb3 CP3 g0 g1 g2 g3 g4 g5 g6 g7 g8 g9 g10 g11
      rcases P2C.out with ⟨hk0, hpu, hus⟩ | ⟨hk0, hu⟩
      · subst hk0
        have CU := Lib.hid (parse_of _ nw2 nk2 ne2 b0 b1 b2 b3 b4 b5 b6 b7 b8 b9 u (by omega) hpu rfl LW2.out.1 LW2.out.2.1 LW2.out.2.2)
        clear hpu hus
        go_wp2_with fail
        refine (CU.out _ (HM.out _ Y3.out)).mono ?_
        rintro e y4 ⟨xa, ya, za, xc, yc, zc, rfl, hT, hK, hE, -, hb4⟩
        go_upto_region 15 with fail
        have hbb := below_one y4 (.cells #[.slice xa nw2 xc, .slice ya nk2 yc, .int .i64 b0, .int .i64 b1, .int .i64 b2, .int .i64 b3, .int .i64 b4, .int .i64 b5, .int .i64 b6, .int .i64 b7, .int .i64 b8, .int .i64 b9] 30)
        have hcc := heap_alloc_new y4 (.cells #[.slice xa nw2 xc, .slice ya nk2 yc, .int .i64 b0, .int .i64 b1, .int .i64 b2, .int .i64 b3, .int .i64 b4, .int .i64 b5, .int .i64 b6, .int .i64 b7, .int .i64 b8, .int .i64 b9] 30)
        have hb5 := hb4.trans (hbb.mono hb4.size)
        have Y5 := Lib.hid (Y3.out.trans (hb5.mono Y3.out.size))
        have XT := Lib.hid (hT.below hbb)
        have XK := Lib.hid (hK.below hbb)
        have XE := Lib.hid (hE.below hbb)
        have WC := Lib.hid (show (y4.alloc (.cells #[.slice xa nw2 xc, .slice ya nk2 yc, .int .i64 b0, .int .i64 b1, .int .i64 b2, .int .i64 b3, .int .i64 b4, .int .i64 b5, .int .i64 b6, .int .i64 b7, .int .i64 b8, .int .i64 b9] 30)).heap[p]? = some (.cells #[.slice va nw2 vc, .slice la nk2 lc, .int .i64 b0, .int .i64 b1, .int .i64 b2, .int .i64 b3, .int .i64 b4, .int .i64 b5, .int .i64 b6, .int .i64 b7, .int .i64 b8, .int .i64 b9] 30 (0, 0)) from (hb5.block _ (lt_of_heap29 ZC.out)).trans ZC.out)
        have WT := Lib.hid (ZT.out.below hb5)
        have WK := Lib.hid (ZK.out.below hb5)
        have WE := Lib.hid (ZE.out.below hb5)
        obtain ⟨r, hr⟩ : ∃ r, y4.heap.size = r := ⟨_, rfl⟩
        rw [hr] at hcc ⊢
        have XC := Lib.hid hcc
        clear hbb hcc hT hK hE hb4 hb5
        generalize y4.alloc (.cells #[.slice xa nw2 xc, .slice ya nk2 yc, .int .i64 b0, .int .i64 b1, .int .i64 b2, .int .i64 b3, .int .i64 b4, .int .i64 b5, .int .i64 b6, .int .i64 b7, .int .i64 b8, .int .i64 b9] 30) = y5 at *
        clear hr
        have CS := Lib.hid (sameConfig_yes xa va ya la nw2 nk2 xc vc yc lc _ _ b0 b1 b2 b3 b4 b5 b6 b7 b8 b9 y5 XT.out WT.out XK.out WK.out (by have := LB2.out; omega) (by have := LB2.out; omega))
        have CV := Lib.hid (fun (w' : World) (hb : Below y5.heap.size y5 w') => sameEvents_yes za fa ne2 zc fc _ w' (XE.out.below hb) (WE.out.below hb) (by have := LB2.out; omega))
        have g0 : y5.cell? ⟨r, 0, none⟩ = some (.slice xa nw2 xc) := by rw [Lib.cell_of_heap XC.out]; rfl
        have g1 : y5.cell? ⟨r, 1, none⟩ = some (.slice ya nk2 yc) := by rw [Lib.cell_of_heap XC.out]; rfl
        have g2 : y5.cell? ⟨r, 2, none⟩ = some (.int .i64 b0) := by rw [Lib.cell_of_heap XC.out]; rfl
        have g3 : y5.cell? ⟨r, 3, none⟩ = some (.int .i64 b1) := by rw [Lib.cell_of_heap XC.out]; rfl
        have g4 : y5.cell? ⟨r, 4, none⟩ = some (.int .i64 b2) := by rw [Lib.cell_of_heap XC.out]; rfl
        have g5 : y5.cell? ⟨r, 5, none⟩ = some (.int .i64 b3) := by rw [Lib.cell_of_heap XC.out]; rfl
        have g6 : y5.cell? ⟨r, 6, none⟩ = some (.int .i64 b4) := by rw [Lib.cell_of_heap XC.out]; rfl
        have g7 : y5.cell? ⟨r, 7, none⟩ = some (.int .i64 b5) := by rw [Lib.cell_of_heap XC.out]; rfl
        have g8 : y5.cell? ⟨r, 8, none⟩ = some (.int .i64 b6) := by rw [Lib.cell_of_heap XC.out]; rfl
        have g9 : y5.cell? ⟨r, 9, none⟩ = some (.int .i64 b7) := by rw [Lib.cell_of_heap XC.out]; rfl
        have g10 : y5.cell? ⟨r, 10, none⟩ = some (.int .i64 b8) := by rw [Lib.cell_of_heap XC.out]; rfl
        have g11 : y5.cell? ⟨r, 11, none⟩ = some (.int .i64 b9) := by rw [Lib.cell_of_heap XC.out]; rfl
        have h0 : y5.cell? ⟨p, 0, none⟩ = some (.slice va nw2 vc) := by rw [Lib.cell_of_heap WC.out]; rfl
        have h1 : y5.cell? ⟨p, 1, none⟩ = some (.slice la nk2 lc) := by rw [Lib.cell_of_heap WC.out]; rfl
        have h2 : y5.cell? ⟨p, 2, none⟩ = some (.int .i64 b0) := by rw [Lib.cell_of_heap WC.out]; rfl
        have h3 : y5.cell? ⟨p, 3, none⟩ = some (.int .i64 b1) := by rw [Lib.cell_of_heap WC.out]; rfl
        have h4 : y5.cell? ⟨p, 4, none⟩ = some (.int .i64 b2) := by rw [Lib.cell_of_heap WC.out]; rfl
        have h5 : y5.cell? ⟨p, 5, none⟩ = some (.int .i64 b3) := by rw [Lib.cell_of_heap WC.out]; rfl
        have h6 : y5.cell? ⟨p, 6, none⟩ = some (.int .i64 b4) := by rw [Lib.cell_of_heap WC.out]; rfl
        have h7 : y5.cell? ⟨p, 7, none⟩ = some (.int .i64 b5) := by rw [Lib.cell_of_heap WC.out]; rfl
        have h8 : y5.cell? ⟨p, 8, none⟩ = some (.int .i64 b6) := by rw [Lib.cell_of_heap WC.out]; rfl
        have h9 : y5.cell? ⟨p, 9, none⟩ = some (.int .i64 b7) := by rw [Lib.cell_of_heap WC.out]; rfl
        have h10 : y5.cell? ⟨p, 10, none⟩ = some (.int .i64 b8) := by rw [Lib.cell_of_heap WC.out]; rfl
        have h11 : y5.cell? ⟨p, 11, none⟩ = some (.int .i64 b9) := by rw [Lib.cell_of_heap WC.out]; rfl
        go_wp2_with fail
        refine CS.out.mono ?_
        rintro e y6 ⟨rfl, hb6⟩
        have Y6 := Lib.hid (Y5.out.trans (hb6.mono Y5.out.size))
        have CV2 := Lib.hid (CV.out _ hb6)
        clear hb6 CV g0 g1 g2 g3 g4 g5 g6 g7 g8 g9 g10 g11 h0 h1 h2 h3 h4 h5 h6 h7 h8 h9 h10 h11
        go_wp2_with fail
        refine CV2.out.mono ?_
        rintro e y7 ⟨rfl, hb7⟩
        have Y7 := Lib.hid (Y6.out.trans (hb7.mono Y6.out.size))
        clear hb7
        go_wp2_with fail
        refine (AW.out _ Y7.out).mono ?_
        rintro e wz ⟨rfl, hbz⟩
        go_wp2_with fail
        go_ret
        exact ⟨rfl, hbz⟩
      · obtain rfl : k2 = 3 := by rcases P2M.out with h | h <;> omega
        subst hu
        go_wp2_with fail
        refine (C3.out _ (HM.out _ Y3.out)).mono ?_
        rintro e y4 ⟨xa, ya, za, xc, yc, zc, rfl, hT, hK, hE, -, hb4⟩
        go_upto_region 15 with fail
        have hbb := below_one y4 (.cells #[.slice xa nw3 xc, .slice ya nk3 yc, .int .i64 c0, .int .i64 c1, .int .i64 c2, .int .i64 c3, .int .i64 c4, .int .i64 c5, .int .i64 c6, .int .i64 c7, .int .i64 c8, .int .i64 c9] 30)
        have hb5 := hb4.trans (hbb.mono hb4.size)
        have Y5 := Lib.hid (Y3.out.trans (hb5.mono Y3.out.size))
        obtain ⟨r, hr⟩ : ∃ r, y4.heap.size = r := ⟨_, rfl⟩
        rw [hr]
        clear hbb hT hK hE hb4 hb5
        generalize y4.alloc (.cells #[.slice xa nw3 xc, .slice ya nk3 yc, .int .i64 c0, .int .i64 c1, .int .i64 c2, .int .i64 c3, .int .i64 c4, .int .i64 c5, .int .i64 c6, .int .i64 c7, .int .i64 c8, .int .i64 c9] 30) = y5 at *
        clear hr
        go_wp2_with fail
        refine (AW.out _ Y5.out).mono ?_
        rintro e wz ⟨rfl, hbz⟩
        go_wp2_with fail
        go_ret
        exact ⟨rfl, hbz⟩
open Go.ChangeShapes Go.WideShapes Go.ChangeAt in
theorem scriptBack_walk {H : Type} {enc : TypeId × Value → H} {laid : List (String × DataW Unit)} (W : World) (base : Nat) (v0 v1 v2 : Value) (d0 d1 d2 : DataW H) (p0 p1 p2 : List MemPlace)
    (h0 : DataW.Trod enc Tryd.prog W 0 (fun _ => true) true 30 v0 d0 p0) (h1 : DataW.Trod enc Tryd.prog W 0 (fun _ => true) true 31 v1 d1 p1) (h2 : DataW.Trod enc Tryd.prog W 0 (fun _ => true) true 9 v2 d2 p2)
    (o0 : Value.okWide Tryd.prog W .any base 30 v0) (o1 : Value.okWide Tryd.prog W .any base 31 v1) (o2 : Value.okWide Tryd.prog W .any base 9 v2) (hL : laidMetH Tryd.prog laid W) (hsh : W.ShapedOpen Tryd.prog)
    (hT : (laid.filter fun x => x.1 == "internal/strconv.uint64pow10") = [("internal/strconv.uint64pow10", Lib.tabData .u64 Lib.pow10Tab)] := by kernel_rfl) :
    Calls Tryd.prog 5 #[v0, v1, v2] W fun e w' => e = .returned (.bool true) ∧ RowKit.Below W.heap.size W w' := by
  obtain ⟨c, rfl, hc⟩ := open_cfg o0 h0
  obtain ⟨a, n, cp, es, rfl, he, hn, hes⟩ := open_evs_arg o1 h1
  obtain ⟨s, rfl, _, _, hs⟩ := Go.ChangeMaps.open_string Tryd.underlying9 o2 h2
  unfold maxLen at hs
  obtain ⟨q1, q2, q3, q4, q5, q6⟩ := cfg_bounds hc
  exact scriptBack_any c.wa c.ka a c.wn c.kn n c.wc c.kc cp c.W c.C c.S c.B c.L c.H c.F c.P c.J c.N c.ws c.ks es s W q1 q2 he (tab10_of hL hT) (maxL_of hsh) (by omega) q3 q4 q5 q6 hn hes
end Go.Proofs.YtmddnklafplikaaDoor
