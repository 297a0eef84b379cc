/- texts joined -/
import Derived.Test.YtolggcdlpiedmaaPkE
import Derived.Test.YtolggcdlpiedmaaPkC
import Derived.Laws.Cover4
import Derived.Test.YtolggcdlpiedmaaPkB
import Derived.Test.YtolggcdlpiedmaaPkA
/- texts renamed: each rune below 128 moved to 128512 and on: plain -/
namespace Go.Proofs.Ytolggcdlpiedmaa
open Go.RowKit
set_option linter.unusedVariables false
set_option maxRecDepth 20000
def upR (r : Nat) : Nat := 128512 + r
/-- well made, of small runes -/
def SmT (t : Tx) : Prop := 0 ≤ lenS t ∧ ∀ r ∈ runesS t, r < 128
theorem bytes_foldl (L : List Int) (s : ByteArray) : L.foldl (fun r n => r ++ Utf8.encode n) s = s ++ runesBytes L := by
  induction L generalizing s with
  | nil => simp [runesBytes]
  | cons n L ih =>
    unfold runesBytes
    rw [List.foldl_cons, List.foldl_cons, ih, ih (ByteArray.empty ++ Utf8.encode n), ByteArray.append_assoc]
    simp
theorem runesBytes_cons (n : Int) (L : List Int) : runesBytes (n :: L) = Utf8.encode n ++ runesBytes L := by
  rw [show runesBytes (n :: L) = L.foldl (fun r n => r ++ Utf8.encode n) (ByteArray.empty ++ Utf8.encode n) from rfl, bytes_foldl]
  simp
theorem runes_bytes : ∀ (L : List Nat), (∀ r ∈ L, goodP (r : Int)) → runesS (runesBytes (intsN L)) = L ∧ 0 ≤ lenS (runesBytes (intsN L))
  | [], _ => by
    have : runesBytes (intsN []) = ⟨#[]⟩ := rfl
    rw [this]; decide +kernel
  | r :: L, h => by
    obtain ⟨h1, h2⟩ := runes_bytes L (fun x hx => h x (by simp [hx]))
    obtain ⟨h3, h4⟩ := ro_runes_one r (h r (by simp))
    rw [show intsN (r :: L) = (r : Int) :: intsN L from rfl, runesBytes_cons]
    refine ⟨by rw [runesS_join _ _ h4, h3, h1]; rfl, ?_⟩
    rw [lenS_join _ _ h4 h2]; omega
def upS (t : Tx) : Tx := runesBytes (intsN ((runesS t).map upR))
theorem up_good {r : Nat} (h : r < 128) : goodP ((upR r : Nat) : Int) := by unfold goodP upR; omega
theorem up_runes {t : Tx} (h : SmT t) : runesS (upS t) = (runesS t).map upR ∧ 0 ≤ lenS (upS t) := by
  unfold upS
  exact runes_bytes _ (fun r hr => by
    obtain ⟨x, hx, rfl⟩ := List.mem_map.1 hr
    exact up_good (h.2 x hx))
theorem up_len {t : Tx} (h : SmT t) : lenS (upS t) = lenS t := by
  have h1 := (lenS_pos (up_runes h).2).2
  have h2 := (lenS_pos h.1).2
  rw [h1, h2, (up_runes h).1, List.length_map]
theorem tx_runes {a b : Tx} (ha : 0 ≤ lenS a) (hb : 0 ≤ lenS b) (h : runesS a = runesS b) : a = b := by
  have h3 := cmpS_runes a b ha hb
  rw [h, ← cmpS_runes b b hb hb, cmpS_same] at h3
  exact cmpS_zero.1 h3
theorem map_upR_inj : ∀ {a b : List Nat}, a.map upR = b.map upR → a = b
  | [], [], _ => rfl
  | [], _ :: _, h => by simp at h
  | _ :: _, [], h => by simp at h
  | x :: a, y :: b, h => by
    simp only [List.map_cons, List.cons.injEq, upR] at h
    rw [show x = y by omega, map_upR_inj (a := a) (b := b) h.2]
theorem up_inj {a b : Tx} (ha : SmT a) (hb : SmT b) (h : upS a = upS b) : a = b := by
  have h1 := (up_runes ha).1
  rw [h, (up_runes hb).1] at h1
  exact tx_runes ha.1 hb.1 (map_upR_inj h1.symm)
theorem lexN_up : ∀ a b : List Nat, lexN (a.map upR) (b.map upR) = lexN a b
  | [], [] => rfl
  | [], _ :: _ => rfl
  | _ :: _, [] => rfl
  | x :: a, y :: b => by
    simp only [List.map_cons, lexN, lexN_up a b, upR]
    by_cases h1 : x < y
    · rw [if_pos h1, if_pos (by omega)]
    · rw [if_neg h1, if_neg (by omega)]
      by_cases h2 : y < x
      · rw [if_pos h2, if_pos (by omega)]
      · rw [if_neg h2, if_neg (by omega)]
theorem up_cmp {a b : Tx} (ha : SmT a) (hb : SmT b) : cmpS (upS a) (upS b) = cmpS a b := by
  rw [cmpS_runes _ _ (up_runes ha).2 (up_runes hb).2, (up_runes ha).1, (up_runes hb).1, lexN_up, ← cmpS_runes a b ha.1 hb.1]
theorem L_up (a b : List Nat) : ∀ i j, i ≤ a.length → j ≤ b.length → Ed.L (intsN (a.map upR)) (intsN (b.map upR)) i j = Ed.L (intsN a) (intsN b) i j
  | 0, j, _, _ => by simp only [Ed.L]
  | i + 1, 0, _, _ => by simp only [Ed.L]
  | i + 1, j + 1, hi, hj => by
    have e : Ed.cost ((intsN (a.map upR)).getD i 0) ((intsN (b.map upR)).getD j 0) = Ed.cost ((intsN a).getD i 0) ((intsN b).getD j 0) := by
      simp only [intsN, List.getD_eq_getElem?_getD, List.getElem?_map, List.getElem?_eq_getElem (show i < a.length by omega), List.getElem?_eq_getElem (show j < b.length by omega), Option.map_some, Option.getD_some, Ed.cost, upR]
      congr 1
      exact propext ⟨fun h => by omega, fun h => by omega⟩
    simp only [Ed.L]
    rw [e, L_up a b i j (by omega) (by omega), L_up a b (i + 1) j hi (by omega), L_up a b i (j + 1) (by omega) hj]
theorem up_dist {a b : Tx} (ha : SmT a) (hb : SmT b) : distS (upS a) (upS b) = distS a b := by
  unfold distS
  rw [if_pos ⟨(up_runes ha).2, (up_runes hb).2⟩, if_pos ⟨ha.1, hb.1⟩, (up_runes ha).1, (up_runes hb).1, List.length_map, List.length_map]
  exact L_up _ _ _ _ (Nat.le_refl _) (Nat.le_refl _)
end Go.Proofs.Ytolggcdlpiedmaa
/- the graph of renamed words has as many nodes: plain -/
namespace Go.Proofs.Ytolggcdlpiedmaa
open Go.RowKit
set_option linter.unusedVariables false
set_option maxRecDepth 20000
theorem sm_rst {t : Tx} (h : SmT t) (h0 : 0 < t.size) : SmT (rstS t) ∧ labS t < 128 := by
  have h1 := rst_runes h.1 h0
  refine ⟨⟨(rst_len h.1 h0).1, fun r hr => h.2 r (by rw [h1]; simp [hr])⟩, h.2 _ (by rw [h1]; simp)⟩
theorem up_size {t : Tx} (h : SmT t) (h0 : 0 < t.size) : 0 < (upS t).size := by
  rcases Nat.eq_zero_or_pos (upS t).size with e | e
  · exfalso
    have h1 := (up_runes h).1
    rw [empty_size e, rst_runes h.1 h0] at h1
    have h2 : runesS (⟨#[]⟩ : ByteArray) = [] := by decide +kernel
    rw [h2] at h1; simp at h1
  · exact e
theorem up_none : upS ⟨#[]⟩ = ⟨#[]⟩ := by
  have h2 : runesS (⟨#[]⟩ : ByteArray) = [] := by decide +kernel
  unfold upS; rw [h2]; rfl
theorem up_lab {t : Tx} (h : SmT t) (h0 : 0 < t.size) : labS (upS t) = upR (labS t) ∧ rstS (upS t) = upS (rstS t) := by
  have h1 := rst_runes (up_runes h).2 (up_size h h0)
  rw [(up_runes h).1, rst_runes h.1 h0, List.map_cons, List.cons.injEq] at h1
  refine ⟨h1.1.symm, ?_⟩
  have hr := (sm_rst h h0).1
  refine tx_runes (rst_len (up_runes h).2 (up_size h h0)).1 (up_runes hr).2 ?_
  rw [← h1.2, (up_runes hr).1]
def SmL (l : List Tx) : Prop := ∀ t ∈ l, SmT t
theorem up_empty {t : Tx} (h : SmT t) : upS t = ⟨#[]⟩ ↔ t = ⟨#[]⟩ := by
  constructor
  · intro e
    rcases Nat.eq_zero_or_pos t.size with h0 | h0
    · exact empty_size h0
    · have := up_size h h0
      rw [e] at this; exact absurd this (by decide)
  · rintro rfl; exact up_none
theorem up_fin {l : List Tx} (h : SmL l) : finS (l.map upS) = finS l := by
  unfold finS
  cases l with
  | nil => simp
  | cons t l =>
    simp only [List.map_cons, List.head?_cons, Option.some.injEq]
    exact decide_eq_decide.2 (up_empty (h t (by simp)))
theorem up_bod {l : List Tx} (h : SmL l) : bodS (l.map upS) = (bodS l).map upS := by
  unfold bodS
  rw [up_fin h]
  split
  · exact List.map_tail.symm
  · rfl
theorem up_fol {l : List Tx} (h : SmL l) (h0 : ∀ t ∈ l, 0 < t.size) : (folS (l.map upS)).2 = (folS l).2.map upS := by
  cases l with
  | nil => rfl
  | cons s l =>
    have hs := up_lab (h s (by simp)) (h0 s (by simp))
    show (((upS s :: l.map upS).takeWhile (fun t => decide (labS t = labS (upS s)))).map rstS) = (((s :: l).takeWhile (fun t => decide (labS t = labS s))).map rstS).map upS
    rw [hs.1]
    have key : ∀ m : List Tx, SmL m → (∀ t ∈ m, 0 < t.size) → ((m.map upS).takeWhile (fun t => decide (labS t = upR (labS s)))).map rstS = ((m.takeWhile (fun t => decide (labS t = labS s))).map rstS).map upS := by
      intro m
      induction m with
      | nil => intro _ _; rfl
      | cons t m ih =>
        intro hm hm0
        have ht := up_lab (hm t (by simp)) (hm0 t (by simp))
        rw [List.map_cons, List.takeWhile_cons, List.takeWhile_cons, ht.1]
        by_cases e : labS t = labS s
        · rw [if_pos (by simp [e]), if_pos (by simp [e]), List.map_cons, List.map_cons, List.map_cons, ht.2, ih (fun x hx => hm x (by simp [hx])) (fun x hx => hm0 x (by simp [hx]))]
        · rw [if_neg (by simp [upR]; omega), if_neg (by simp [e])]; rfl
    exact key (s :: l) h h0
theorem sm_fol {l : List Tx} (h : SmL l) (h0 : ∀ t ∈ l, 0 < t.size) : SmL (folS l).2 := by
  cases l with
  | nil => intro t ht; simp [folS] at ht
  | cons s l =>
    intro t ht
    obtain ⟨x, hx, rfl⟩ := List.mem_map.1 ht
    have hm := (List.takeWhile_sublist _).mem hx
    exact (sm_rst (h x hm) (h0 x hm)).1
theorem sm_bod {l : List Tx} (h : SmL l) : SmL (bodS l) := by
  unfold bodS
  split
  · exact fun t ht => h t (List.mem_of_mem_tail ht)
  · exact h
theorem map_up_inj : ∀ {a b : List Tx}, SmL a → SmL b → a.map upS = b.map upS → a = b
  | [], [], _, _, _ => rfl
  | [], _ :: _, _, _, h => by simp at h
  | _ :: _, [], _, _, h => by simp at h
  | x :: a, y :: b, ha, hb, h => by
    simp only [List.map_cons, List.cons.injEq] at h
    rw [up_inj (ha x (by simp)) (hb y (by simp)) h.1, map_up_inj (fun t ht => ha t (by simp [ht])) (fun t ht => hb t (by simp [ht])) h.2]
/-- two nodes' lists of the same words, renamed -/
structure UpG (st st' : List GN) : Prop where
  eq : restsG st' = (restsG st).map (List.map upS)
  sm : ∀ l ∈ restsG st, SmL l
theorem UpG.len {st st' : List GN} (h : UpG st st') : st'.length = st.length := by
  have := congrArg List.length h.eq
  simpa [restsG] using this
theorem findG_rests (st : List GN) (s : List Tx) : findG st s = (restsG st).findIdx? (fun r => decide (r = s)) := by
  unfold findG restsG
  rw [List.findIdx?_map]; rfl
theorem find_up : ∀ (R : List (List Tx)) (s : List Tx), (∀ l ∈ R, SmL l) → SmL s → (R.map (List.map upS)).findIdx? (fun r => decide (r = s.map upS)) = R.findIdx? (fun r => decide (r = s))
  | [], s, _, _ => rfl
  | l :: R, s, h, hs => by
    rw [List.map_cons, List.findIdx?_cons, List.findIdx?_cons, find_up R s (fun x hx => h x (by simp [hx])) hs]
    have e : decide (l.map upS = s.map upS) = decide (l = s) := decide_eq_decide.2 ⟨fun e => map_up_inj (h l (by simp)) hs e, fun e => by rw [e]⟩
    rw [e]
theorem UpG.find {st st' : List GN} (h : UpG st st') {s : List Tx} (hs : SmL s) : findG st' (s.map upS) = findG st s := by
  rw [findG_rests, findG_rests, h.eq, find_up _ _ h.sm hs]
theorem UpG.snoc {st st' : List GN} (h : UpG st st') {s : List Tx} (hs : SmL s) : UpG (st ++ [⟨s, false, []⟩]) (st' ++ [⟨s.map upS, false, []⟩]) := by
  constructor
  · simp only [restsG, List.map_append, List.map_cons, List.map_nil]
    have := h.eq
    simp only [restsG] at this
    rw [this]
  · intro l hl
    rw [restsG_app] at hl
    rcases List.mem_append.1 hl with hl | hl
    · exact h.sm l hl
    · simp only [restsG, List.map_cons, List.map_nil, List.mem_singleton] at hl
      subst hl; exact hs
theorem UpG.set {st st' : List GN} (h : UpG st st') {s : List Tx} (hs : SmL s) (i : Nat) (b b' : Bool) (es es' : List EdP) : UpG (st.set i ⟨s, b, es⟩) (st'.set i ⟨s.map upS, b', es'⟩) := by
  constructor
  · simp only [restsG, List.map_set]
    have := h.eq
    simp only [restsG] at this
    rw [this]
  · intro l hl
    simp only [restsG, List.map_set] at hl
    rcases List.mem_or_eq_of_mem_set hl with hl | rfl
    · exact h.sm l hl
    · exact hs
theorem reach_up (f : Nat) : ∀ (st st' : List GN) (s : List Tx) (n : Nat), UpG st st' → SmL s → OkL n s → UpG (reachF f st s).2 (reachF f st' (s.map upS)).2 := by
  induction f with
  | zero => intro st st' s n h _ _; exact h
  | succ f ih =>
    intro st st' s n h hs hn
    unfold reachF
    rw [h.find hs]
    cases findG st s with
    | some i => exact h
    | none =>
      simp only
      have key : ∀ (m : Nat) (l : List Tx) (es es' : List EdP) (st st' : List GN) (n : Nat), UpG st st' → SmL l → (∀ t ∈ l, 0 < t.size) → OkL n l → UpG (edgesF (reachF f) m l es st).2 (edgesF (reachF f) m (l.map upS) es' st').2 := by
        intro m
        induction m with
        | zero => intro l es es' st st' n h _ _ _; exact h
        | succ m ihm =>
          intro l es es' st st' n h hl hp hok
          unfold edgesF
          by_cases h0 : l = []
          · subst h0; simpa using h
          · rw [if_neg h0, if_neg (by simp [h0]), up_fol hl hp, List.length_map, ← List.map_drop]
            have hn1 : ∃ n', n = n' + 1 := by
              cases l with
              | nil => exact absurd rfl h0
              | cons t l =>
                have h1 := rst_len (hok.lo t (by simp)) (hp t (by simp))
                have h2 := hok.hi t (by simp)
                exact ⟨n - 1, by omega⟩
            obtain ⟨n', rfl⟩ := hn1
            exact ihm _ _ _ _ _ _ (ih st st' (folS l).2 n' h (sm_fol hl hp) (hok.fol hp)) (fun t ht => hl t (List.mem_of_mem_drop ht)) (fun t ht => hp t (List.mem_of_mem_drop ht)) (hok.drop _)
      rw [h.len, up_bod hs, List.length_map]
      exact (key _ _ _ _ _ _ n (h.snoc hs) (sm_bod hs) (bod_pos hn.ord) hn.bod).set hs _ _ _ _ _
/-- as many nodes -/
theorem nodes_up {ts : List Tx} (h : SmL ts) {n : Nat} (hn : OkL n ts) : (reachF 13 [] (ts.map upS)).2.length = (reachF 13 [] ts).2.length :=
  (reach_up 13 [] [] ts n ⟨rfl, fun l hl => by simp [restsG] at hl⟩ h hn).len
end Go.Proofs.Ytolggcdlpiedmaa
/- contract of the law's up -/
namespace Go.Proofs.Ytolggcdlpiedmaa
open Go.RowKit
set_option linter.unusedVariables false
set_option maxRecDepth 20000
def upB (s : Tx) (n : Nat) : List Int := (List.range n).map fun i => 128512 + (byteS s i : Int)
theorem upB_succ (s : Tx) (n : Nat) : upB s (n + 1) = upB s n ++ [128512 + (byteS s n : Int)] := by
  unfold upB; rw [List.range_succ, List.map_append]; rfl
theorem upB_len (s : Tx) (n : Nat) : (upB s n).length = n := by simp [upB]
open Go.ChangeShapes Go.WideShapes Go.ChangeAt in
set_option maxRecDepth 100000 in
set_option maxHeartbeats 3200000 in
theorem up_any (s : Tx) (w : World) (hs : s.size ≤ 1048576) :
    Calls Try.prog 32 #[.string s] w fun e w' => e = .returned (.string (runesBytes (upB s s.size))) ∧ Below w.heap.size w w' := by
  obtain ⟨i0, hi0, hz0, hz1, hz2⟩ := info_parts (show (Try.prog.info? 21).map (fun i => (i.zero, i.size, i.bytes)) = some (some (.int .i32 0), 1, 4) from by kernel_rfl)
  obtain ⟨n, hn⟩ : ∃ n, s.size = n := ⟨_, rfl⟩
  rw [hn]
  go_enter Try.func32, Try.ntmps32
  go_wp2_with fail
  go_loopw [3, 4] (fun ov iv wr => ∃ (i : Nat) (av : Option Addr) (cv : Nat), i ≤ n ∧ iv = .int .i64 i ∧ ov = .slice av i cv ∧ Hid (wr.ownsRow w.heap.size 21 1 (.slice av i cv) i (runesV (upB s i))) ∧ Hid (Below w.heap.size w wr)) (fun _ iv _ => n - (intOf iv).toNat)
  case atStart => exact ⟨0, none, 0, by omega, rfl, rfl, Lib.hid (World.ownsRow_nil _ _ _ _), Lib.hid (Below.refl _ _)⟩
  case round =>
    obtain ⟨i, av, cv, hi, rfl, rfl, hO, hB⟩ := hrel
    by_cases hlt : i < n
    · have hbl := byteS_lt s i
      have hby := byteS_at s i (by omega)
      obtain ⟨b, hb⟩ : ∃ b, byteS s i = b := ⟨_, rfl⟩
      have HU := Lib.hid (show upB s (i + 1) = upB s i ++ [128512 + (b : Int)] from by rw [upB_succ, hb])
      rw [hb] at hby hbl
      have q1 : wrap32 (b : Int) = (b : Int) := IntWalk.wrap32_in _ (by omega)
      have q2 : wrap32 (128512 + (b : Int)) = 128512 + (b : Int) := IntWalk.wrap32_in _ (by omega)
      clear hb
      go_wp2_with (at_builtin; refine wpList_append_any rfl (.tmp 11) (.tmp 17) 83 rfl w.heap.size 21 i0 (.int .i32 0) 1 4 Try.underlying83 hi0 hz0 hz1 hz2 rfl (by decide) _ i _ rfl (hO.out.alloc _) _ 1 1 [.int .i32 (128512 + (b : Int))] rfl (some_none _) rfl (one_new _ _ _ _) (one_int _ _) (by unfold maxLen; omega) (by omega) (by have := hB.out.size; simp; omega) ?_; intro a3 c3 w3 hown3 hb3 hnil3)
      have O3 := Lib.hid (show w3.ownsRow w.heap.size 21 1 (.slice a3 (i + 1) c3) (i + 1) (runesV (upB s (i + 1))) from by rw [HU.out]; unfold runesV; rw [List.map_append]; exact hown3)
      have B3 := Lib.hid ((hB.out.alloc hB.out.size _).trans hb3)
      clear hown3 hb3 hnil3
      go_roundw
      case rel => exact ⟨i + 1, a3, c3, by omega, by go_num, rfl, O3, B3⟩
      case measure => simp [intOf] <;> omega
    · obtain rfl : i = n := by omega
      have hlen := upB_len s i
      obtain ⟨us, hus⟩ : ∃ us, upB s i = us := ⟨_, rfl⟩
      rw [hus] at hO hlen
      have HUS := Lib.hid hus
      have hcv : (convert 83 9 (.slice av i cv)).run Try.prog wr = .ok (.string (runesBytes us)) wr := by
        rcases Joins.ownsRow_forms hO.out with ⟨e, h0⟩ | ⟨g, cap, e⟩
        · cases e
          rw [run_convert_runes_nil wr 83 9 21 0 0 Try.underlying83 Try.underlying21 Try.underlying9]
          rw [List.eq_nil_of_length_eq_zero (show us.length = 0 by omega)]; rfl
        · cases e
          rw [run_convert_runes wr 83 9 21 ⟨g, 0, none⟩ i cv us (by omega) Try.underlying83 Try.underlying21 Try.underlying9 (fun j hj => ?_), List.take_of_length_le (by omega)]
          have h1 := hO.out.cellAt j (by omega)
          rw [add_plain, Nat.zero_add]
          rw [h1]
          simp [runesV, List.getD_eq_getElem?_getD, List.getElem?_eq_getElem hj]
      clear hus
      go_wp2_with fail
      go_ret
      exact ⟨by rw [HUS.out]; rfl, hB.out⟩
end Go.Proofs.Ytolggcdlpiedmaa
/- texts of small bytes; what is near, renamed: plain -/
namespace Go.Proofs.Ytolggcdlpiedmaa
open Go.RowKit
set_option linter.unusedVariables false
set_option maxRecDepth 20000
def AscT (t : Tx) : Prop := ∀ i, i < t.size → byteS t i < 128
theorem asc_runesN (t : Tx) (h : AscT t) : ∀ f pos, t.size ≤ pos + f → pos ≤ t.size → runesN t f pos = (List.range' pos (t.size - pos)).map (byteS t)
  | 0, pos, h1, h2 => by
    rw [show t.size - pos = 0 by omega]; rfl
  | f + 1, pos, h1, h2 => by
    rw [runesN]
    by_cases hp : pos < t.size
    · have hd : Utf8.decode t pos = (byteS t pos, 1) := by
        rw [decode_bytes]; unfold Lib.decodeN
        rw [if_pos (h pos hp)]
      rw [if_pos hp, hd, asc_runesN t h f (pos + 1) (by omega) (by omega), show t.size - pos = (t.size - (pos + 1)) + 1 by omega, List.range'_succ]
      rfl
    · rw [if_neg hp, show t.size - pos = 0 by omega]; rfl
theorem asc_runes {t : Tx} (h : AscT t) : runesS t = (List.range t.size).map (byteS t) := by
  unfold runesS
  rw [asc_runesN t h _ 0 (by omega) (by omega), Nat.sub_zero, List.range_eq_range']
theorem asc_small {t : Tx} (h : AscT t) : SmT t := by
  have hr : ∀ r ∈ runesS t, r < 128 := fun r hr => by
    rw [asc_runes h] at hr
    obtain ⟨i, hi, rfl⟩ := List.mem_map.1 hr
    exact h i (List.mem_range.1 hi)
  refine ⟨?_, hr⟩
  rw [lenS_good (fun r h1 => by have := hr r h1; omega)]; omega
theorem asc_up {t : Tx} (h : AscT t) : runesBytes (upB t t.size) = upS t := by
  unfold upS upB
  rw [asc_runes h, List.map_map]
  unfold intsN
  rw [List.map_map]; rfl
theorem asc_left {a b : Tx} (h : AscT (a ++ b)) : AscT a := fun i hi => by
  have h1 := h i (by rw [ByteArray.size_append]; omega)
  rwa [byteS_left _ _ _ hi] at h1
theorem asc_right {a b : Tx} (h : AscT (a ++ b)) : AscT b := fun i hi => by
  have h1 := h (a.size + i) (by rw [ByteArray.size_append]; omega)
  rwa [byteS_right] at h1
def joinT (q : Tx) (l : List Tx) : Tx := l.foldl (· ++ ·) q
theorem joinT_snoc (q : Tx) (l : List Tx) (x : Tx) : joinT q (l ++ [x]) = joinT q l ++ x := by simp [joinT]
theorem joinT_size (l : List Tx) : ∀ q : Tx, (∀ t ∈ l, t.size ≤ 100) → (joinT q l).size ≤ q.size + l.length * 100 := by
  induction l with
  | nil => intro q _; simp [joinT]
  | cons x l ih =>
    intro q h
    have h1 := ih (q ++ x) (fun t ht => h t (by simp [ht]))
    have h2 := h x (by simp)
    rw [ByteArray.size_append] at h1
    simp only [joinT, List.foldl_cons, List.length_cons] at h1 ⊢
    omega
theorem joinT_asc : ∀ (l : List Tx) (q : Tx), AscT (joinT q l) → AscT q ∧ ∀ t ∈ l, AscT t
  | [], q, h => ⟨h, by simp⟩
  | x :: l, q, h => by
    obtain ⟨h1, h2⟩ := joinT_asc l (q ++ x) h
    refine ⟨asc_left h1, fun t ht => ?_⟩
    rcases List.mem_cons.1 ht with rfl | ht
    · exact asc_right h1
    · exact h2 t ht
theorem up_bytes {t : Tx} (h : SmT t) : (upS t).size ≤ 4 * (lenS t).toNat := by
  unfold upS
  refine Nat.le_trans (runesBytes_size_le _) ?_
  rw [intsN_len, List.length_map]
  have := (lenS_pos h.1).2
  omega
theorem up_sorted {l : List Tx} (h : SmL l) (hs : SortedS l) : SortedS (l.map upS) := by
  unfold SortedS at hs ⊢
  rw [List.pairwise_map]
  refine List.Pairwise.imp_of_mem ?_ hs
  intro a b ha hb hab
  rwa [up_cmp (h a ha) (h b hb)]
theorem up_goodV {l : List Tx} (h : SmL l) (hg : goodV l = 0) : goodV (l.map upS) = 0 := by
  obtain ⟨h1, h2, h3⟩ := goodV_zero hg
  refine goodV_good (by simpa using h1) (fun t ht => ?_) (up_sorted h h3)
  obtain ⟨x, hx, rfl⟩ := List.mem_map.1 ht
  have := h2 x hx
  unfold wordP at this ⊢
  rwa [up_len (h x hx)]
def upK (x : KV) : KV := (x.1, upS x.2)
theorem near_up {s : Tx} (hs : SmT s) (k : Int) : ∀ {l : List Tx}, SmL l → nearL (l.map upS) (upS s) k = (nearL l s k).map upK
  | [], _ => rfl
  | t :: l, h => by
    rw [List.map_cons, nearL_cons, nearL_cons, up_dist (h t (by simp)) hs, near_up hs k (fun x hx => h x (by simp [hx])), List.map_append]
    congr 1
    split <;> rfl
theorem ord_upK {a b : KV} (ha : SmT a.2) (hb : SmT b.2) : ordK (upK a) (upK b) = ordK a b := by
  unfold ordK upK
  simp only
  rw [up_cmp ha hb]
theorem all_up {s : Tx} (hs : SmT s) (k : Int) {l : List Tx} (h : SmL l) (ho : SortedS l) : allK (l.map upS) (upS s) k = (allK l s k).map upK := by
  have hst := allK_strict ho s k
  unfold allK at hst ⊢
  rw [near_up hs k h]
  symm
  refine sortK_of ?_ ((sortK_perm _).map _)
  unfold SortedK
  rw [List.pairwise_map]
  unfold StrictK at hst
  refine List.Pairwise.imp_of_mem ?_ hst
  intro a b ha hb hab
  refine leK_of_lt ?_
  rw [ord_upK (h _ (nearL_mem.1 (sortK_mem.1 ha)).1) (h _ (nearL_mem.1 (sortK_mem.1 hb)).1)]
  exact hab
/-- the graph of good words, and what it is made of -/
theorem buildR_good (a : Option Addr) (n cap : Nat) (ts : List Tx) (w : World) (hh : HoldsT w a n ts) (hc : n ≤ cap) (hn : n ≤ 100000) (hs : ∀ t ∈ ts, t.size ≤ 100) (hv : goodV ts = 0) :
    Calls Try.prog 14 #[.slice a n cap] w fun e w' => ∃ g S, e = .returned (.tuple #[.pointer (some ⟨g, 0, none⟩), .int .i64 0]) ∧ GrOk g ts w' ∧ GAt g (grS ts) w' S ∧ Below w.heap.size w w' := by
  refine (build_good a n cap ts w hh hc (by omega) hs hv).mono ?_
  rintro e w' ⟨g, S, rfl, hg, _, hb⟩
  have hok := ok_good hv hs
  exact ⟨g, S, rfl, ⟨grS ts, S, grS_ok hv hs, hg, fun t ht => ⟨hok.lo t ht, hok.hi t ht, hs t ht⟩, hok.n⟩, hg, hb⟩
end Go.Proofs.Ytolggcdlpiedmaa
