/- texts joined -/
import Derived.Test.YthboiklcjpnhbaaPkG
import Derived.Test.YthboiklcjpnhbaaChecked
import Derived.Test.YthboiklcjpnhbaaPkA
import Derived.WalkLawsBesides
import Derived.WalkSpells
import Derived.Outline
import Derived.Test.YthboiklcjpnhbaaPkB
/- messages in the document: read of all kinds, Decode (by gen/mf2.py) -/
namespace Go.Proofs.Ythboiklcjpnhbaa
open Go.RowKit
set_option linter.unusedVariables false
set_option maxRecDepth 20000
set_option maxRecDepth 100000
theorem results_cell_row2 {fn : Func} {p q : Tmp} {ty : TypeId} (h : fn.results = #[.cell p ty, .tmp q]) (tmps : Array Value) (w : World) (g : Nat) (V v : Value)
    (hp : tmps.getD p undef = .pointer (some ⟨g, 0, none⟩)) (hv : tmps.getD q undef = v) (hl : (loadVar ty ⟨g, 0, none⟩).run Try.prog w = .ok V w) :
    (results fn tmps).run Try.prog w = .ok (.tuple #[V, v]) w := by
  have hp' : tmps[p]?.getD undef = .pointer (some ⟨g, 0, none⟩) := by simpa using hp
  have hv' : tmps[q]?.getD undef = v := by simpa using hv
  simp [results, h, hp', hv', asAddr, hl]
set_option maxHeartbeats 3200000 in
theorem rMay_none (kv : Int) (hk : kv ≠ 1 ∧ kv ≠ 2 ∧ kv ≠ 3 ∧ kv ≠ 4 ∧ kv ≠ 5) (w : World) : Calls Try.prog 20 #[.agg #[.int .i64 kv, .int .i64 0, .int .i64 0, .int .i64 0, .int .i64 0, .int .i64 0, .int .i64 0, .int .i64 0, .int .i64 0, .int .i64 0, .int .i64 0, .string ⟨#[]⟩, .int .i64 0, .int .i64 0, .bool false, .int .i64 0, .string ⟨#[]⟩, .int .i64 0, .int .i64 0, .int .i64 0, .int .i64 0, .int .i64 0, .int .i64 0, .slice .none 0 0, .bool false, .int .i64 0, .int .i64 0]] w fun e w' => e = .returned (.bool false) ∧ Below w.heap.size w w' := by
  obtain ⟨w3, hw3⟩ : ∃ w3, w.alloc (.cells #[.int .i64 kv, .int .i64 0, .int .i64 0, .int .i64 0, .int .i64 0, .int .i64 0, .int .i64 0, .int .i64 0, .int .i64 0, .int .i64 0, .int .i64 0, .string ⟨#[]⟩, .int .i64 0, .int .i64 0, .bool false, .int .i64 0, .string ⟨#[]⟩, .int .i64 0, .int .i64 0, .int .i64 0, .int .i64 0, .int .i64 0, .int .i64 0, .slice .none 0 0, .bool false, .int .i64 0, .int .i64 0] 46) = w3 := ⟨_, rfl⟩
  have BX := Lib.hid (show Below w.heap.size w w3 from hw3 ▸ below_one w _)
  have x0 : w3.cell? ⟨w.heap.size, 0, none⟩ = some (.int .i64 kv) := by rw [← hw3, World.cell?_alloc_mark]; rfl
  obtain ⟨p, hp⟩ : ∃ p, w.heap.size = p := ⟨_, rfl⟩
  rw [hp] at x0
  obtain ⟨k1, k2, k3, k4, k5⟩ := hk
  go_enter Try.func20, Try.ntmps20
  go_upto_region 1 with fail
  try rw [hw3]
  try simp only [hp]
  clear hw3 hp
  go_wp2_with fail
  go_ret
  exact ⟨rfl, BX.out⟩
theorem msg_cells (M : MsgV) : ∃ cs : Array Value, msgC M = .agg cs ∧ cs.size = 27 ∧ cs.all (·.oneCell') = true := by
  cases M <;> exact ⟨_, rfl, rfl, by simp [Value.oneCell']⟩
theorem heldM_turn {w w' : World} {M : MsgV} {F : Nat → Prop} (h : heldM w M) (t : Turn F w w') (hF : ∀ x, M = .reply x → ∀ q o, 0 < x.n → x.ia = some ⟨q, o, none⟩ → ¬ F q) : heldM w' M := by
  cases M <;> first | trivial | exact ⟨holdsK_fresh h.1 t (fun h0 q o e => hF _ rfl q o h0 e), h.2⟩
/-- what read makes of bytes -/
def DRd (r : Nat) (a : Option Addr) (n cap : Nat) (bs : List Nat) (w : World) (e : Ending) (w' : World) : Prop :=
  ∃ (cs : Array Value) (M : MsgV) (s : RS), e = .returned (.agg cs) ∧ cs.size = 27 ∧ cs.all (·.oneCell') = true ∧ GotD bs n M s ∧ heldM w' M ∧ (∀ x, M = .reply x → ∀ q o, 0 < x.n → x.ia = some ⟨q, o, none⟩ → w.heap.size ≤ q) ∧ smallM M ∧ (mayM M = true → msgC M = .agg cs) ∧ (∀ w'', Below w'.heap.size w' w'' → Calls Try.prog 15 #[.agg cs] w'' (EncM w'' M)) ∧ RdS r a n cap bs s w' ∧ Turn (fun k => k = r ∨ w.heap.size ≤ k) w w'
theorem drd_of {r : Nat} {a : Option Addr} {n cap : Nat} {bs : List Nat} {w : World} (M : MsgV) (s : RS) {e : Ending} {w' : World} (he : e = .returned (msgC M)) (hg : GotD bs n M s) (hh : heldM w' M) (hq : ∀ x, M = .reply x → ∀ q o, 0 < x.n → x.ia = some ⟨q, o, none⟩ → w.heap.size ≤ q) (hs : smallM M) (hr : RdS r a n cap bs s w') (ht : Turn (fun k => k = r ∨ w.heap.size ≤ k) w w') : DRd r a n cap bs w e w' := by
  obtain ⟨cs, hcs, h27, h1⟩ := msg_cells M
  refine ⟨cs, M, s, by rw [he, hcs], h27, h1, hg, hh, hq, hs, fun _ => hcs, fun w'' hb => ?_, hr, ht⟩
  rw [← hcs]
  exact dEncode_all M w'' (hh.below hb) hs
theorem dRead_all {r : Nat} {a : Option Addr} {n cap : Nat} {bs : List Nat} (w : World) (h : RdS r a n cap bs ds3 w) (hl : bs.length = n) (hb : ∀ b ∈ bs, b < 256) (h1100 : n ≤ 1100) :
    Calls Try.prog 51 #[.pointer (some ⟨r, 0, none⟩), .int .i64 (kdD bs)] w (DRd r a n cap bs w) := by
  by_cases k1 : kdD bs = 1
  · rw [k1]
    refine (dRead_Hello w h).mono ?_
    rintro e w' ⟨he, hr, ht⟩
    exact drd_of (.hello _ _) _ he (by unfold GotD; rw [if_pos k1]; exact ⟨rfl, rfl⟩) trivial (fun x h => by cases h) trivial hr ht
  by_cases k2 : kdD bs = 2
  · rw [k2]
    refine (dRead_Grant w h).mono ?_
    rintro e w' ⟨he, hr, ht⟩
    exact drd_of (.grant _ _ _) _ he (by unfold GotD; rw [if_neg k1, if_pos k2]; exact ⟨rfl, rfl⟩) trivial (fun x h => by cases h) trivial hr ht
  by_cases k3 : kdD bs = 3
  · rw [k3]
    refine (dRead_Ask w h).mono ?_
    rintro e w' ⟨he, hr, ht⟩
    exact drd_of (.ask (dAsk bs n ds3)) _ he (by unfold GotD; rw [if_neg k1, if_neg k2, if_pos k3]; exact ⟨rfl, rfl⟩) trivial (fun x h => by cases h) ⟨dAskText bs n _ (by omega), dAskText bs n _ (by omega)⟩ hr ht
  by_cases k4 : kdD bs = 4
  · rw [k4]
    obtain ⟨m, hm⟩ : ∃ m : Nat, dMx bs n ds3 = (m : Int) := ⟨numQ bs n (dRx n ds3).k 1, rfl⟩
    have hm256 : m < 256 := by
      have h2 := numQ_lt bs n (dRx n ds3).k 1 hb hl
      have h3 : dMx bs n ds3 = (numQ bs n (dRx n ds3).k 1 : Nat) := rfl
      have : (256 : Nat) ^ 1 = 256 := by decide
      omega
    refine (dRead_Reply m hm256 w h hm).mono ?_
    rintro e w' ⟨j, ia, ic, hj, hjb, he, hk, hqq, hr, ht⟩
    exact drd_of (.reply (dRep bs n ds3 ia j ic)) _ he (by unfold GotD; rw [if_neg k1, if_neg k2, if_neg k3, if_pos k4]; exact ⟨ia, m, j, ic, hm, hj, hjb, rfl, rfl⟩) hk (fun x h q o h0 e => by injection h with h; subst h; exact hqq q o h0 e) ⟨dIl_small bs n _ (by omega) j, show j ≤ 1048576 by omega⟩ hr ht
  by_cases k5 : kdD bs = 5
  · rw [k5]
    refine (dRead_Stop w h).mono ?_
    rintro e w' ⟨he, hr, ht⟩
    exact drd_of (.stop _ _) _ he (by unfold GotD; rw [if_neg k1, if_neg k2, if_neg k3, if_neg k4, if_pos k5]; exact ⟨rfl, rfl⟩) trivial (fun x h => by cases h) trivial hr ht
  · refine (dRead_no (kdD bs) ⟨k1, k2, k3, k4, k5⟩ w h).mono ?_
    obtain ⟨kv, hkv⟩ : ∃ kv, kdD bs = kv := ⟨_, rfl⟩
    rintro e w' ⟨he, hr, ht⟩
    refine ⟨_, .none, ds3, he, rfl, by simp [Value.oneCell'], by unfold GotD; rw [if_neg k1, if_neg k2, if_neg k3, if_neg k4, if_neg k5]; exact ⟨rfl, rfl⟩, trivial, (fun x h => by cases h), trivial, (fun h => by cases h), fun w'' hb => ?_, hr, ht⟩
    refine (dEncode_no (kdD bs) _ _ _ _ _ _ _ _ _ _ _ _ _ _ _ _ _ _ _ _ _ _ _ _ _ _ w'' (fun w3 _ => rMay_none (kdD bs) ⟨k1, k2, k3, k4, k5⟩ w3)).mono ?_
    rintro e w3 ⟨h1, h2⟩
    exact Or.inr ⟨rfl, h1, h2⟩
def DDec (w : World) (bs : List Nat) (n : Nat) (e : Ending) (w' : World) : Prop :=
  Below w.heap.size w w' ∧
  ((shapeB bs n = false ∧ e = .returned (.tuple #[msgC .none, .int .i64 8])) ∨
   (shapeB bs n = true ∧ openB bs = false ∧ e = .returned (.tuple #[msgC .none, .int .i64 9])) ∨
   (shapeB bs n = true ∧ openB bs = true ∧ ∃ M s, GotD bs n M s ∧ heldM w' M ∧ smallM M ∧
     ((s.bad = false ∧ mayM M = true ∧ frameM M = bs ∧ e = .returned (.tuple #[msgC M, .int .i64 0])) ∨ (¬ (s.bad = false ∧ mayM M = true ∧ frameM M = bs) ∧ e = .returned (.tuple #[msgC .none, .int .i64 8])))))
theorem rd_size15 : (Try.prog.info? 46).map (·.size) = some 27 := by kernel_rfl
set_option maxHeartbeats 6400000 in
theorem dDecode_any (a : Option Addr) (n cap : Nat) (bs : List Nat) (w : World) (h : HoldsB w a n bs) (hn : n ≤ 1100) (hc : n ≤ cap) :
    Calls Try.prog 26 #[.slice a n cap] w (DDec w bs n) := by
  have hl := h.len
  obtain ⟨w1, hw1⟩ : ∃ w1, w.alloc (.cells #[.int .i64 0, .int .i64 0, .int .i64 0, .int .i64 0, .int .i64 0, .int .i64 0, .int .i64 0, .int .i64 0, .int .i64 0, .int .i64 0, .int .i64 0, .string ⟨#[]⟩, .int .i64 0, .int .i64 0, .bool false, .int .i64 0, .string ⟨#[]⟩, .int .i64 0, .int .i64 0, .int .i64 0, .int .i64 0, .int .i64 0, .int .i64 0, .slice .none 0 0, .bool false, .int .i64 0, .int .i64 0] 46) = w1 := ⟨_, rfl⟩
  have HP1 := Lib.hid (show w1.heap[w.heap.size]? = some (.cells #[.int .i64 0, .int .i64 0, .int .i64 0, .int .i64 0, .int .i64 0, .int .i64 0, .int .i64 0, .int .i64 0, .int .i64 0, .int .i64 0, .int .i64 0, .string ⟨#[]⟩, .int .i64 0, .int .i64 0, .bool false, .int .i64 0, .string ⟨#[]⟩, .int .i64 0, .int .i64 0, .int .i64 0, .int .i64 0, .int .i64 0, .int .i64 0, .slice .none 0 0, .bool false, .int .i64 0, .int .i64 0] 46 (0, 0)) from hw1 ▸ heap_alloc_new w _)
  have B1 := Lib.hid (show Below w.heap.size w w1 from hw1 ▸ below_one w _)
  have H1 := Lib.hid (h.below B1.out)
  obtain ⟨p, hp⟩ : ∃ p, w.heap.size = p := ⟨_, rfl⟩
  have HPH := Lib.hid hp
  rw [hp] at HP1
  have HI := Lib.hid rd_size15
  have ZF := Lib.hid (show ∀ (w2 : World) (er : Int), w2.heap[p]? = some (.cells #[.int .i64 0, .int .i64 0, .int .i64 0, .int .i64 0, .int .i64 0, .int .i64 0, .int .i64 0, .int .i64 0, .int .i64 0, .int .i64 0, .int .i64 0, .string ⟨#[]⟩, .int .i64 0, .int .i64 0, .bool false, .int .i64 0, .string ⟨#[]⟩, .int .i64 0, .int .i64 0, .int .i64 0, .int .i64 0, .int .i64 0, .int .i64 0, .slice .none 0 0, .bool false, .int .i64 0, .int .i64 0] 46 (0, 0)) → Below p w w2 → DDec w bs n (.returned (.tuple #[msgC .none, .int .i64 er])) w2 → DDec w bs n (.returned (.tuple #[.agg #[.int .i64 0, .int .i64 0, .int .i64 0, .int .i64 0, .int .i64 0, .int .i64 0, .int .i64 0, .int .i64 0, .int .i64 0, .int .i64 0, .int .i64 0, .string ⟨#[]⟩, .int .i64 0, .int .i64 0, .bool false, .int .i64 0, .string ⟨#[]⟩, .int .i64 0, .int .i64 0, .int .i64 0, .int .i64 0, .int .i64 0, .int .i64 0, .slice .none 0 0, .bool false, .int .i64 0, .int .i64 0], .int .i64 er])) w2 from fun w2 er _ _ h => h)
  by_cases h7 : 7 ≤ n
  · have d1 : decide ((n : Int) < 7) = false := decide_eq_false (by omega)
    have d1' : decide (n < 7) = false := decide_eq_false (by omega)
    by_cases h1 : n ≤ 1024
    · have d2 : decide ((n : Int) > 1024) = false := decide_eq_false (by omega)
      have d2' : decide (1024 < n) = false := decide_eq_false (by omega)
      have CN := Lib.hid (rnum_yes a n cap bs 0 2 w1 H1.out (by omega) (by omega) (by omega) (by omega))
      have hx := numN_lt2 bs h.2 (by omega)
      obtain ⟨x, hxx⟩ : ∃ x, numN bs 0 2 = x := ⟨_, rfl⟩
      rw [hxx, wrap_small x (by omega), show ((2 : Nat) : Int) = 2 from rfl, show ((0 : Nat) : Int) = 0 from rfl] at CN
      have SH := Lib.hid (show shapeB bs n = decide (x = n) from by unfold shapeB; rw [hxx, decide_eq_true h7, decide_eq_true h1]; simp)
      by_cases hxn : x = n
      · subst hxn
        have ST := Lib.hid (show shapeB bs x = true from by rw [SH.out]; simp)
        have d3 : ((x : Int) != (x : Int)) = false := by simp
        have CO := Lib.hid (rOpened_any a x cap bs w1 H1.out (by omega) hc)
        cases ho : openB bs
        · rw [ho] at CO
          have HO := Lib.hid ho
          clear h hl hxx hx ho h7 h1
          go_enter Try.func26, Try.ntmps26
          go_upto_region 1 with fail
          try rw [hw1]
          try simp only [hp]
          clear hw1 hp
          go_wp2_with fail
          with_reducible refine CN.out.mono ?_
          rintro e w' ⟨rfl, rfl⟩
          go_wp2_with fail
          with_reducible refine CO.out.mono ?_
          rintro e w' ⟨rfl, rfl⟩
          go_wp2_with (first | (refine wpList_store_row rfl 46 (.tmp 2) (.tmp 32) rfl p #[.int .i64 0, .int .i64 0, .int .i64 0, .int .i64 0, .int .i64 0, .int .i64 0, .int .i64 0, .int .i64 0, .int .i64 0, .int .i64 0, .int .i64 0, .string ⟨#[]⟩, .int .i64 0, .int .i64 0, .bool false, .int .i64 0, .string ⟨#[]⟩, .int .i64 0, .int .i64 0, .int .i64 0, .int .i64 0, .int .i64 0, .int .i64 0, .slice .none 0 0, .bool false, .int .i64 0, .int .i64 0] rfl rfl 46 #[.int .i64 0, .int .i64 0, .int .i64 0, .int .i64 0, .int .i64 0, .int .i64 0, .int .i64 0, .int .i64 0, .int .i64 0, .int .i64 0, .int .i64 0, .string ⟨#[]⟩, .int .i64 0, .int .i64 0, .bool false, .int .i64 0, .string ⟨#[]⟩, .int .i64 0, .int .i64 0, .int .i64 0, .int .i64 0, .int .i64 0, .int .i64 0, .slice .none 0 0, .bool false, .int .i64 0, .int .i64 0] HP1.out HI.out rfl (by simp [Value.oneCell']) ?_) | fail)
          (try simp only [Exit.inBlock, Exit.then])
          refine bodyPost_ret (results_cell_row2 rfl _ _ p _ _ rfl rfl (run_loadVar_row _ p 46 46 #[.int .i64 0, .int .i64 0, .int .i64 0, .int .i64 0, .int .i64 0, .int .i64 0, .int .i64 0, .int .i64 0, .int .i64 0, .int .i64 0, .int .i64 0, .string ⟨#[]⟩, .int .i64 0, .int .i64 0, .bool false, .int .i64 0, .string ⟨#[]⟩, .int .i64 0, .int .i64 0, .int .i64 0, .int .i64 0, .int .i64 0, .int .i64 0, .slice .none 0 0, .bool false, .int .i64 0, .int .i64 0] (0, 0) _ (setRow_heap _ p _ _ _ _ HP1.out) Try.underlying46 rfl HI.out)) rfl ?_
          refine ⟨below_setRow B1.out (by rw [HPH.out]; exact Nat.le_refl _) _, Or.inr (Or.inl ⟨ST.out, HO.out, rfl⟩)⟩
        · rw [ho] at CO
          have HO := Lib.hid ho
          have HLT := Lib.hid h.2
          have HL := Lib.hid hl
          have N11 := Lib.hid hn
          have NC := Lib.hid hc
          obtain ⟨b, o, rfl, hcc⟩ := H1.out.at (by omega)
          have c2 := hcc 2 (by omega)
          have EK := Lib.hid (show kdD bs = ((bs.getD 2 0 : Nat) : Int) from rfl)
          have k256 : bs.getD 2 0 < 256 := by
            rw [List.getD_eq_getElem?_getD, List.getElem?_eq_getElem (by omega)]
            exact h.2 _ (List.getElem_mem _)
          obtain ⟨kc, hkc⟩ : ∃ kc, bs.getD 2 0 = kc := ⟨_, rfl⟩
          rw [hkc] at c2 k256 EK
          have wk : wrap64 (kc : Int) = (kc : Int) := wrap_small kc (by omega)
          have BL := Lib.hid (show b < w1.heap.size from lt_of_cell c2)
          have RM := Lib.hid (show RdM w1.heap.size (some ⟨b, o, none⟩) x cap bs 3 false (w1.alloc (.cells #[.slice (some ⟨b, o, none⟩) x cap, .int .i64 3, .bool false] 85)) from
            ⟨by rw [cell_alloc rfl]; rfl, by rw [cell_alloc rfl]; rfl, by rw [cell_alloc rfl]; rfl, fun i => frozen_alloc rfl, H1.out.below (below_one _ _), fun q o' e => by injection e with e; injection e with e e'; subst e; have := BL.out; omega⟩)
          have BR := Lib.hid (below_one w1 (.cells #[.slice (some ⟨b, o, none⟩) x cap, .int .i64 3, .bool false] 85))
          have LW := Lib.hid (show p < w1.heap.size from (Array.getElem?_eq_some_iff.1 HP1.out).1)
          have n2 : 2 < x := by omega
          have n3 : (2 : Int) < (x : Int) := by omega
          have X7 := Lib.hid (And.intro h7 h1)
          clear h hl hxx hx ho hcc hkc hn hc h7 h1
          go_enter Try.func26, Try.ntmps26
          go_upto_region 1 with fail
          try rw [hw1]
          try simp only [hp]
          clear hw1 hp
          go_wp2_with fail
          with_reducible refine CN.out.mono ?_
          rintro e w' ⟨rfl, rfl⟩
          go_wp2_with fail
          with_reducible refine CO.out.mono ?_
          rintro e w' ⟨rfl, rfl⟩
          go_upto_region 9 with fail
          generalize w1.alloc (.cells #[.slice (some ⟨b, o, none⟩) x cap, .int .i64 3, .bool false] 85) = w2 at RM BR ⊢
          obtain ⟨r, hr⟩ : ∃ r, w1.heap.size = r := ⟨_, rfl⟩
          have c2 := (BR.out.cell (p := ⟨b, o + 2, none⟩) BL.out).trans c2
          have HP2 := Lib.hid (heap_keep HP1.out BR.out)
          have B2 := Lib.hid (B1.out.trans (BR.out.mono B1.out.size))
          rw [hr] at RM LW
          try simp only [hr]
          have R2 := Lib.hid (show RdS r (some ⟨b, o, none⟩) x cap bs ds3 w2 from ⟨RM.out, by show 3 ≤ x; omega, by have := N11.out; omega, NC.out⟩)
          have CR := Lib.hid (dRead_all w2 R2.out HL.out HLT.out N11.out)
          rw [EK.out] at CR
          clear RM BR HP1 CN CO hr B1 H1 BL
          go_wp2_with fail
          with_reducible refine CR.out.mono ?_
          rintro e w3 ⟨cs, M, s, rfl, h27, hone, hg, hh, hq, hs, hm, hen, hr3, ht3⟩
          have H27 := Lib.hid h27; have HONE := Lib.hid hone; have HG := Lib.hid hg; have HS := Lib.hid hs; have HM := Lib.hid hm; have HEN := Lib.hid hen
          have HP3 := Lib.hid (heap_turn HP2.out ht3 (by have h1 := LW.out; have h2 := (Array.getElem?_eq_some_iff.1 HP2.out).1; omega))
          have LP2 := Lib.hid (show p < w2.heap.size from (Array.getElem?_eq_some_iff.1 HP2.out).1)
          have B3 := Lib.hid (show Below w.heap.size w w3 from B2.out.trans (ht3.below (fun k hk => by have h1 := LW.out; have h2 := HPH.out; have h3 := B2.out.size; omega) B2.out.size))
          have R3 := Lib.hid hr3
          have HH3 := Lib.hid hh
          have HQ3 := Lib.hid (show ∀ y, M = .reply y → ∀ q o, 0 < y.n → y.ia = some ⟨q, o, none⟩ → q ≠ p from fun y hy q o h0 e => by have h1 := hq y hy q o h0 e; have h2 := LP2.out; omega)
          have RW := Lib.hid (show r < w3.heap.size from lt_of_cell hr3.m.c0)
          have PW := Lib.hid (show p < w3.heap.size from (Array.getElem?_eq_some_iff.1 HP3.out).1)
          have HQC := Lib.hid (heap_alloc_new w3 (.cells #[.int .i64 0, .int .i64 0, .int .i64 0, .int .i64 0, .int .i64 0, .int .i64 0, .int .i64 0, .int .i64 0, .int .i64 0, .int .i64 0, .int .i64 0, .string ⟨#[]⟩, .int .i64 0, .int .i64 0, .bool false, .int .i64 0, .string ⟨#[]⟩, .int .i64 0, .int .i64 0, .int .i64 0, .int .i64 0, .int .i64 0, .int .i64 0, .slice .none 0 0, .bool false, .int .i64 0, .int .i64 0] 46))
          clear h27 hone hg hh hq hs hm hen hr3 ht3 HP2 B2 R2 CR LP2
          go_upto_region 10 with (first | (refine wpList_store_row rfl 46 (.tmp 7) (.tmp 41) rfl w3.heap.size cs rfl rfl 46 #[.int .i64 0, .int .i64 0, .int .i64 0, .int .i64 0, .int .i64 0, .int .i64 0, .int .i64 0, .int .i64 0, .int .i64 0, .int .i64 0, .int .i64 0, .string ⟨#[]⟩, .int .i64 0, .int .i64 0, .bool false, .int .i64 0, .string ⟨#[]⟩, .int .i64 0, .int .i64 0, .int .i64 0, .int .i64 0, .int .i64 0, .int .i64 0, .slice .none 0 0, .bool false, .int .i64 0, .int .i64 0] HQC.out (by rw [H27.out]; exact HI.out) (by rw [H27.out]; rfl) HONE.out ?_) | fail)
          obtain ⟨w4, hw4⟩ : ∃ w4, (w3.alloc (.cells #[.int .i64 0, .int .i64 0, .int .i64 0, .int .i64 0, .int .i64 0, .int .i64 0, .int .i64 0, .int .i64 0, .int .i64 0, .int .i64 0, .int .i64 0, .string ⟨#[]⟩, .int .i64 0, .int .i64 0, .bool false, .int .i64 0, .string ⟨#[]⟩, .int .i64 0, .int .i64 0, .int .i64 0, .int .i64 0, .int .i64 0, .int .i64 0, .slice .none 0 0, .bool false, .int .i64 0, .int .i64 0] 46)).setRow w3.heap.size cs = w4 := ⟨_, rfl⟩
          have HQ4 := Lib.hid (show w4.heap[w3.heap.size]? = some (.cells cs 46 (0, 0)) from hw4 ▸ setRow_heap _ _ _ _ _ _ HQC.out)
          have b34 : Below w3.heap.size w3 w4 := hw4 ▸ below_setRow (below_one w3 _) (Nat.le_refl _) cs
          rw [hw4]
          have HP4 := Lib.hid (heap_keep HP3.out b34)
          have R4 := Lib.hid (R3.out.below b34)
          have HH4 := Lib.hid (HH3.out.below b34)
          have B4 := Lib.hid (B3.out.trans (b34.mono B3.out.size))
          have CE := Lib.hid (HEN.out w4 b34)
          obtain ⟨q, hq⟩ : ∃ q, w3.heap.size = q := ⟨_, rfl⟩
          rw [hq] at HQ4 RW PW
          try simp only [hq]
          clear hw4 b34 HQC HP3 R3 HH3 B3 HEN hq
          go_wp2_with (first | (refine wpList_load_row rfl 46 (.tmp 7) rfl q rfl 46 cs (0, 0) _ HQ4.out Try.underlying46 rfl (by rw [H27.out]; exact HI.out) ?_) | fail)
          with_reducible refine CE.out.mono ?_
          rintro e w5 (⟨hm, a5, c5, rfl, o5, hh5, hb5, hn5⟩ | ⟨hm, rfl, hb5⟩)
          · obtain ⟨F, hF⟩ : ∃ F, frameM M = F := ⟨_, rfl⟩
            rw [hF] at o5 hh5 hn5 ⊢
            obtain ⟨m, hmm⟩ : ∃ m, F.length = m := ⟨_, rfl⟩
            rw [hmm] at o5 hh5 hn5 ⊢
            have HF := Lib.hid hF
            have MC := Lib.hid (HM.out hm)
            have MAY := Lib.hid hm
            have HP5 := Lib.hid (heap_keep HP4.out hb5)
            have HQ5 := Lib.hid (heap_keep HQ4.out hb5)
            have HH5 := Lib.hid (HH4.out.below hb5)
            have R5 := R4.out.below hb5
            have B5 := Lib.hid (B4.out.trans (hb5.mono B4.out.size))
            have x2 := R5.m.c2
            have E := Lib.hid (strN_inj hh5.2 HLT.out)
            have r1 := run_conv_bytes w5 39 5 9 Try.underlying39 Try.underlying5 Try.underlying9 a5 m c5 F hh5
            have r2 := run_conv_bytes w5 39 5 9 Try.underlying39 Try.underlying5 Try.underlying9 (some ⟨b, o, none⟩) x cap bs R5.m.h
            obtain ⟨sb, hsb⟩ : ∃ sb, s.bad = sb := ⟨_, rfl⟩
            rw [hsb] at x2
            have HSB := Lib.hid hsb
            clear o5 hh5 hb5 hn5 hmm hF hm R5 CE hsb HP4 HQ4 HH4 R4 B4 HM
            have NO := Lib.hid (show ¬ (s.bad = false ∧ mayM M = true ∧ frameM M = bs) → DDec w bs x (.returned (.tuple #[.agg #[.int .i64 0, .int .i64 0, .int .i64 0, .int .i64 0, .int .i64 0, .int .i64 0, .int .i64 0, .int .i64 0, .int .i64 0, .int .i64 0, .int .i64 0, .string ⟨#[]⟩, .int .i64 0, .int .i64 0, .bool false, .int .i64 0, .string ⟨#[]⟩, .int .i64 0, .int .i64 0, .int .i64 0, .int .i64 0, .int .i64 0, .int .i64 0, .slice .none 0 0, .bool false, .int .i64 0, .int .i64 0], .int .i64 8])) (w5.setRow p #[.int .i64 0, .int .i64 0, .int .i64 0, .int .i64 0, .int .i64 0, .int .i64 0, .int .i64 0, .int .i64 0, .int .i64 0, .int .i64 0, .int .i64 0, .string ⟨#[]⟩, .int .i64 0, .int .i64 0, .bool false, .int .i64 0, .string ⟨#[]⟩, .int .i64 0, .int .i64 0, .int .i64 0, .int .i64 0, .int .i64 0, .int .i64 0, .slice .none 0 0, .bool false, .int .i64 0, .int .i64 0]) from fun hno =>
              ⟨below_setRow B5.out (by rw [HPH.out]; exact Nat.le_refl _) _, Or.inr (Or.inr ⟨ST.out, HO.out, M, s, HG.out, heldM_turn HH5.out (turn_setRow w5 p _) (fun y hy q o h0 e => HQ3.out y hy q o h0 e), HS.out, Or.inr ⟨hno, rfl⟩⟩)⟩)
            cases sb with
            | true =>
              have FIN := Lib.hid (NO.out (fun h => by rw [HSB.out] at h; exact absurd h.1 (by simp)))
              clear r1 r2 NO
              go_wp2_with (first | (refine wpList_store_row rfl 46 (.tmp 2) (.tmp 62) rfl p #[.int .i64 0, .int .i64 0, .int .i64 0, .int .i64 0, .int .i64 0, .int .i64 0, .int .i64 0, .int .i64 0, .int .i64 0, .int .i64 0, .int .i64 0, .string ⟨#[]⟩, .int .i64 0, .int .i64 0, .bool false, .int .i64 0, .string ⟨#[]⟩, .int .i64 0, .int .i64 0, .int .i64 0, .int .i64 0, .int .i64 0, .int .i64 0, .slice .none 0 0, .bool false, .int .i64 0, .int .i64 0] rfl rfl 46 #[.int .i64 0, .int .i64 0, .int .i64 0, .int .i64 0, .int .i64 0, .int .i64 0, .int .i64 0, .int .i64 0, .int .i64 0, .int .i64 0, .int .i64 0, .string ⟨#[]⟩, .int .i64 0, .int .i64 0, .bool false, .int .i64 0, .string ⟨#[]⟩, .int .i64 0, .int .i64 0, .int .i64 0, .int .i64 0, .int .i64 0, .int .i64 0, .slice .none 0 0, .bool false, .int .i64 0, .int .i64 0] HP5.out HI.out rfl (by simp [Value.oneCell']) ?_) | fail)
              (try simp only [Exit.inBlock, Exit.then])
              refine bodyPost_ret (results_cell_row2 rfl _ _ p _ _ rfl rfl (run_loadVar_row _ p 46 46 #[.int .i64 0, .int .i64 0, .int .i64 0, .int .i64 0, .int .i64 0, .int .i64 0, .int .i64 0, .int .i64 0, .int .i64 0, .int .i64 0, .int .i64 0, .string ⟨#[]⟩, .int .i64 0, .int .i64 0, .bool false, .int .i64 0, .string ⟨#[]⟩, .int .i64 0, .int .i64 0, .int .i64 0, .int .i64 0, .int .i64 0, .int .i64 0, .slice .none 0 0, .bool false, .int .i64 0, .int .i64 0] (0, 0) _ (setRow_heap _ p _ _ _ _ HP5.out) Try.underlying46 rfl HI.out)) rfl ?_
              exact FIN.out
            | false =>
              by_cases he : F = bs
              · have e1 : ((strN F).toList == (strN bs).toList) = true := by rw [he]; simp
                have e2 : ((strN F).toList != (strN bs).toList) = false := by rw [he]; simp
                have FIN := Lib.hid (show DDec w bs x (.returned (.tuple #[.agg cs, .int .i64 0])) (w5.setRow p cs) from by
                  rw [← MC.out]
                  exact ⟨below_setRow B5.out (by rw [HPH.out]; exact Nat.le_refl _) _, Or.inr (Or.inr ⟨ST.out, HO.out, M, s, HG.out, heldM_turn HH5.out (turn_setRow w5 p _) (fun y hy q o h0 e => HQ3.out y hy q o h0 e), HS.out, Or.inl ⟨HSB.out, MAY.out, HF.out.trans he, rfl⟩⟩)⟩)
                clear he NO
                go_wp2_with (first | (refine wpList_load_row rfl 46 (.tmp 7) rfl q rfl 46 cs (0, 0) _ HQ5.out Try.underlying46 rfl (by rw [H27.out]; exact HI.out) ?_) | (refine wpList_store_row rfl 46 (.tmp 2) (.tmp 63) rfl p cs rfl rfl 46 #[.int .i64 0, .int .i64 0, .int .i64 0, .int .i64 0, .int .i64 0, .int .i64 0, .int .i64 0, .int .i64 0, .int .i64 0, .int .i64 0, .int .i64 0, .string ⟨#[]⟩, .int .i64 0, .int .i64 0, .bool false, .int .i64 0, .string ⟨#[]⟩, .int .i64 0, .int .i64 0, .int .i64 0, .int .i64 0, .int .i64 0, .int .i64 0, .slice .none 0 0, .bool false, .int .i64 0, .int .i64 0] HP5.out (by rw [H27.out]; exact HI.out) (by rw [H27.out]; rfl) HONE.out ?_) | fail)
                (try simp only [Exit.inBlock, Exit.then])
                refine bodyPost_ret (results_cell_row2 rfl _ _ p _ _ rfl rfl (run_loadVar_row _ p 46 46 cs (0, 0) _ (setRow_heap _ p _ _ _ _ HP5.out) Try.underlying46 rfl (by rw [H27.out]; exact HI.out))) rfl ?_
                exact FIN.out
              · have e1 : ((strN F).toList == (strN bs).toList) = false := by
                  rw [beq_eq_false_iff_ne]; exact fun h => he (E.out.1 (toList_inj h))
                have e2 : ((strN F).toList != (strN bs).toList) = true := by
                  rw [bne_iff_ne]; exact fun h => he (E.out.1 (toList_inj h))
                have FIN := Lib.hid (NO.out (fun h => he (by rw [← HF.out]; exact h.2.2)))
                clear he NO
                go_wp2_with (first | (refine wpList_store_row rfl 46 (.tmp 2) (.tmp 62) rfl p #[.int .i64 0, .int .i64 0, .int .i64 0, .int .i64 0, .int .i64 0, .int .i64 0, .int .i64 0, .int .i64 0, .int .i64 0, .int .i64 0, .int .i64 0, .string ⟨#[]⟩, .int .i64 0, .int .i64 0, .bool false, .int .i64 0, .string ⟨#[]⟩, .int .i64 0, .int .i64 0, .int .i64 0, .int .i64 0, .int .i64 0, .int .i64 0, .slice .none 0 0, .bool false, .int .i64 0, .int .i64 0] rfl rfl 46 #[.int .i64 0, .int .i64 0, .int .i64 0, .int .i64 0, .int .i64 0, .int .i64 0, .int .i64 0, .int .i64 0, .int .i64 0, .int .i64 0, .int .i64 0, .string ⟨#[]⟩, .int .i64 0, .int .i64 0, .bool false, .int .i64 0, .string ⟨#[]⟩, .int .i64 0, .int .i64 0, .int .i64 0, .int .i64 0, .int .i64 0, .int .i64 0, .slice .none 0 0, .bool false, .int .i64 0, .int .i64 0] HP5.out HI.out rfl (by simp [Value.oneCell']) ?_) | fail)
                (try simp only [Exit.inBlock, Exit.then])
                refine bodyPost_ret (results_cell_row2 rfl _ _ p _ _ rfl rfl (run_loadVar_row _ p 46 46 #[.int .i64 0, .int .i64 0, .int .i64 0, .int .i64 0, .int .i64 0, .int .i64 0, .int .i64 0, .int .i64 0, .int .i64 0, .int .i64 0, .int .i64 0, .string ⟨#[]⟩, .int .i64 0, .int .i64 0, .bool false, .int .i64 0, .string ⟨#[]⟩, .int .i64 0, .int .i64 0, .int .i64 0, .int .i64 0, .int .i64 0, .int .i64 0, .slice .none 0 0, .bool false, .int .i64 0, .int .i64 0] (0, 0) _ (setRow_heap _ p _ _ _ _ HP5.out) Try.underlying46 rfl HI.out)) rfl ?_
                exact FIN.out
          · have HP5 := Lib.hid (heap_keep HP4.out hb5)
            have HH5 := Lib.hid (HH4.out.below hb5)
            have R5 := R4.out.below hb5
            have B5 := Lib.hid (B4.out.trans (hb5.mono B4.out.size))
            have x2 := R5.m.c2
            obtain ⟨sb, hsb⟩ : ∃ sb, s.bad = sb := ⟨_, rfl⟩
            rw [hsb] at x2
            have FIN := Lib.hid (show DDec w bs x (.returned (.tuple #[.agg #[.int .i64 0, .int .i64 0, .int .i64 0, .int .i64 0, .int .i64 0, .int .i64 0, .int .i64 0, .int .i64 0, .int .i64 0, .int .i64 0, .int .i64 0, .string ⟨#[]⟩, .int .i64 0, .int .i64 0, .bool false, .int .i64 0, .string ⟨#[]⟩, .int .i64 0, .int .i64 0, .int .i64 0, .int .i64 0, .int .i64 0, .int .i64 0, .slice .none 0 0, .bool false, .int .i64 0, .int .i64 0], .int .i64 8])) (w5.setRow p #[.int .i64 0, .int .i64 0, .int .i64 0, .int .i64 0, .int .i64 0, .int .i64 0, .int .i64 0, .int .i64 0, .int .i64 0, .int .i64 0, .int .i64 0, .string ⟨#[]⟩, .int .i64 0, .int .i64 0, .bool false, .int .i64 0, .string ⟨#[]⟩, .int .i64 0, .int .i64 0, .int .i64 0, .int .i64 0, .int .i64 0, .int .i64 0, .slice .none 0 0, .bool false, .int .i64 0, .int .i64 0]) from
              ⟨below_setRow B5.out (by rw [HPH.out]; exact Nat.le_refl _) _, Or.inr (Or.inr ⟨ST.out, HO.out, M, s, HG.out, heldM_turn HH5.out (turn_setRow w5 p _) (fun y hy q o h0 e => HQ3.out y hy q o h0 e), HS.out, Or.inr ⟨(fun h => by rw [hm] at h; exact absurd h.2.1 (by simp)), rfl⟩⟩)⟩)
            clear hm hb5 R5 CE hsb HP4 HQ4 HH4 R4 B4 HM
            cases sb
            go_wp2_with (first | (refine wpList_store_row rfl 46 (.tmp 2) (.tmp 62) rfl p #[.int .i64 0, .int .i64 0, .int .i64 0, .int .i64 0, .int .i64 0, .int .i64 0, .int .i64 0, .int .i64 0, .int .i64 0, .int .i64 0, .int .i64 0, .string ⟨#[]⟩, .int .i64 0, .int .i64 0, .bool false, .int .i64 0, .string ⟨#[]⟩, .int .i64 0, .int .i64 0, .int .i64 0, .int .i64 0, .int .i64 0, .int .i64 0, .slice .none 0 0, .bool false, .int .i64 0, .int .i64 0] rfl rfl 46 #[.int .i64 0, .int .i64 0, .int .i64 0, .int .i64 0, .int .i64 0, .int .i64 0, .int .i64 0, .int .i64 0, .int .i64 0, .int .i64 0, .int .i64 0, .string ⟨#[]⟩, .int .i64 0, .int .i64 0, .bool false, .int .i64 0, .string ⟨#[]⟩, .int .i64 0, .int .i64 0, .int .i64 0, .int .i64 0, .int .i64 0, .int .i64 0, .slice .none 0 0, .bool false, .int .i64 0, .int .i64 0] HP5.out HI.out rfl (by simp [Value.oneCell']) ?_) | fail)
            (try simp only [Exit.inBlock, Exit.then])
            refine bodyPost_ret (results_cell_row2 rfl _ _ p _ _ rfl rfl (run_loadVar_row _ p 46 46 #[.int .i64 0, .int .i64 0, .int .i64 0, .int .i64 0, .int .i64 0, .int .i64 0, .int .i64 0, .int .i64 0, .int .i64 0, .int .i64 0, .int .i64 0, .string ⟨#[]⟩, .int .i64 0, .int .i64 0, .bool false, .int .i64 0, .string ⟨#[]⟩, .int .i64 0, .int .i64 0, .int .i64 0, .int .i64 0, .int .i64 0, .int .i64 0, .slice .none 0 0, .bool false, .int .i64 0, .int .i64 0] (0, 0) _ (setRow_heap _ p _ _ _ _ HP5.out) Try.underlying46 rfl HI.out)) rfl ?_
            exact FIN.out
            go_wp2_with (first | (refine wpList_store_row rfl 46 (.tmp 2) (.tmp 62) rfl p #[.int .i64 0, .int .i64 0, .int .i64 0, .int .i64 0, .int .i64 0, .int .i64 0, .int .i64 0, .int .i64 0, .int .i64 0, .int .i64 0, .int .i64 0, .string ⟨#[]⟩, .int .i64 0, .int .i64 0, .bool false, .int .i64 0, .string ⟨#[]⟩, .int .i64 0, .int .i64 0, .int .i64 0, .int .i64 0, .int .i64 0, .int .i64 0, .slice .none 0 0, .bool false, .int .i64 0, .int .i64 0] rfl rfl 46 #[.int .i64 0, .int .i64 0, .int .i64 0, .int .i64 0, .int .i64 0, .int .i64 0, .int .i64 0, .int .i64 0, .int .i64 0, .int .i64 0, .int .i64 0, .string ⟨#[]⟩, .int .i64 0, .int .i64 0, .bool false, .int .i64 0, .string ⟨#[]⟩, .int .i64 0, .int .i64 0, .int .i64 0, .int .i64 0, .int .i64 0, .int .i64 0, .slice .none 0 0, .bool false, .int .i64 0, .int .i64 0] HP5.out HI.out rfl (by simp [Value.oneCell']) ?_) | fail)
            (try simp only [Exit.inBlock, Exit.then])
            refine bodyPost_ret (results_cell_row2 rfl _ _ p _ _ rfl rfl (run_loadVar_row _ p 46 46 #[.int .i64 0, .int .i64 0, .int .i64 0, .int .i64 0, .int .i64 0, .int .i64 0, .int .i64 0, .int .i64 0, .int .i64 0, .int .i64 0, .int .i64 0, .string ⟨#[]⟩, .int .i64 0, .int .i64 0, .bool false, .int .i64 0, .string ⟨#[]⟩, .int .i64 0, .int .i64 0, .int .i64 0, .int .i64 0, .int .i64 0, .int .i64 0, .slice .none 0 0, .bool false, .int .i64 0, .int .i64 0] (0, 0) _ (setRow_heap _ p _ _ _ _ HP5.out) Try.underlying46 rfl HI.out)) rfl ?_
            exact FIN.out
      · have SF := Lib.hid (show shapeB bs n = false from by rw [SH.out]; simp [hxn])
        have d3 : ((x : Int) != (n : Int)) = true := by rw [bne_iff_ne]; omega
        have d4 : ((x : Int) == (n : Int)) = false := by rw [beq_eq_false_iff_ne]; omega
        clear h hl hxx hx h7 h1 hxn
        go_enter Try.func26, Try.ntmps26
        go_upto_region 1 with fail
        try rw [hw1]
        try simp only [hp]
        clear hw1 hp
        go_wp2_with fail
        with_reducible refine CN.out.mono ?_
        rintro e w' ⟨rfl, rfl⟩
        go_wp2_with (first | (refine wpList_store_row rfl 46 (.tmp 2) (.tmp 28) rfl p #[.int .i64 0, .int .i64 0, .int .i64 0, .int .i64 0, .int .i64 0, .int .i64 0, .int .i64 0, .int .i64 0, .int .i64 0, .int .i64 0, .int .i64 0, .string ⟨#[]⟩, .int .i64 0, .int .i64 0, .bool false, .int .i64 0, .string ⟨#[]⟩, .int .i64 0, .int .i64 0, .int .i64 0, .int .i64 0, .int .i64 0, .int .i64 0, .slice .none 0 0, .bool false, .int .i64 0, .int .i64 0] rfl rfl 46 #[.int .i64 0, .int .i64 0, .int .i64 0, .int .i64 0, .int .i64 0, .int .i64 0, .int .i64 0, .int .i64 0, .int .i64 0, .int .i64 0, .int .i64 0, .string ⟨#[]⟩, .int .i64 0, .int .i64 0, .bool false, .int .i64 0, .string ⟨#[]⟩, .int .i64 0, .int .i64 0, .int .i64 0, .int .i64 0, .int .i64 0, .int .i64 0, .slice .none 0 0, .bool false, .int .i64 0, .int .i64 0] HP1.out HI.out rfl (by simp [Value.oneCell']) ?_) | fail)
        (try simp only [Exit.inBlock, Exit.then])
        refine bodyPost_ret (results_cell_row2 rfl _ _ p _ _ rfl rfl (run_loadVar_row _ p 46 46 #[.int .i64 0, .int .i64 0, .int .i64 0, .int .i64 0, .int .i64 0, .int .i64 0, .int .i64 0, .int .i64 0, .int .i64 0, .int .i64 0, .int .i64 0, .string ⟨#[]⟩, .int .i64 0, .int .i64 0, .bool false, .int .i64 0, .string ⟨#[]⟩, .int .i64 0, .int .i64 0, .int .i64 0, .int .i64 0, .int .i64 0, .int .i64 0, .slice .none 0 0, .bool false, .int .i64 0, .int .i64 0] (0, 0) _ (setRow_heap _ p _ _ _ _ HP1.out) Try.underlying46 rfl HI.out)) rfl ?_
        refine ⟨below_setRow B1.out (by rw [HPH.out]; exact Nat.le_refl _) _, Or.inl ⟨SF.out, rfl⟩⟩
    · have SF := Lib.hid (show shapeB bs n = false from by unfold shapeB; rw [decide_eq_false h1]; simp)
      have d2 : decide ((n : Int) > 1024) = true := decide_eq_true (by omega)
      have d2' : decide (1024 < n) = true := decide_eq_true (by omega)
      clear h hl h7 h1
      go_enter Try.func26, Try.ntmps26
      go_upto_region 1 with fail
      try rw [hw1]
      try simp only [hp]
      clear hw1 hp
      go_wp2_with (first | (refine wpList_store_row rfl 46 (.tmp 2) (.tmp 18) rfl p #[.int .i64 0, .int .i64 0, .int .i64 0, .int .i64 0, .int .i64 0, .int .i64 0, .int .i64 0, .int .i64 0, .int .i64 0, .int .i64 0, .int .i64 0, .string ⟨#[]⟩, .int .i64 0, .int .i64 0, .bool false, .int .i64 0, .string ⟨#[]⟩, .int .i64 0, .int .i64 0, .int .i64 0, .int .i64 0, .int .i64 0, .int .i64 0, .slice .none 0 0, .bool false, .int .i64 0, .int .i64 0] rfl rfl 46 #[.int .i64 0, .int .i64 0, .int .i64 0, .int .i64 0, .int .i64 0, .int .i64 0, .int .i64 0, .int .i64 0, .int .i64 0, .int .i64 0, .int .i64 0, .string ⟨#[]⟩, .int .i64 0, .int .i64 0, .bool false, .int .i64 0, .string ⟨#[]⟩, .int .i64 0, .int .i64 0, .int .i64 0, .int .i64 0, .int .i64 0, .int .i64 0, .slice .none 0 0, .bool false, .int .i64 0, .int .i64 0] HP1.out HI.out rfl (by simp [Value.oneCell']) ?_) | fail)
      (try simp only [Exit.inBlock, Exit.then])
      refine bodyPost_ret (results_cell_row2 rfl _ _ p _ _ rfl rfl (run_loadVar_row _ p 46 46 #[.int .i64 0, .int .i64 0, .int .i64 0, .int .i64 0, .int .i64 0, .int .i64 0, .int .i64 0, .int .i64 0, .int .i64 0, .int .i64 0, .int .i64 0, .string ⟨#[]⟩, .int .i64 0, .int .i64 0, .bool false, .int .i64 0, .string ⟨#[]⟩, .int .i64 0, .int .i64 0, .int .i64 0, .int .i64 0, .int .i64 0, .int .i64 0, .slice .none 0 0, .bool false, .int .i64 0, .int .i64 0] (0, 0) _ (setRow_heap _ p _ _ _ _ HP1.out) Try.underlying46 rfl HI.out)) rfl ?_
      refine ⟨below_setRow B1.out (by rw [HPH.out]; exact Nat.le_refl _) _, Or.inl ⟨SF.out, rfl⟩⟩
  · have SF := Lib.hid (show shapeB bs n = false from by unfold shapeB; rw [decide_eq_false h7]; simp)
    have d1 : decide ((n : Int) < 7) = true := decide_eq_true (by omega)
    have d1' : decide (n < 7) = true := decide_eq_true (by omega)
    clear h hl h7
    go_enter Try.func26, Try.ntmps26
    go_upto_region 1 with fail
    try rw [hw1]
    try simp only [hp]
    clear hw1 hp
    go_wp2_with (first | (refine wpList_store_row rfl 46 (.tmp 2) (.tmp 18) rfl p #[.int .i64 0, .int .i64 0, .int .i64 0, .int .i64 0, .int .i64 0, .int .i64 0, .int .i64 0, .int .i64 0, .int .i64 0, .int .i64 0, .int .i64 0, .string ⟨#[]⟩, .int .i64 0, .int .i64 0, .bool false, .int .i64 0, .string ⟨#[]⟩, .int .i64 0, .int .i64 0, .int .i64 0, .int .i64 0, .int .i64 0, .int .i64 0, .slice .none 0 0, .bool false, .int .i64 0, .int .i64 0] rfl rfl 46 #[.int .i64 0, .int .i64 0, .int .i64 0, .int .i64 0, .int .i64 0, .int .i64 0, .int .i64 0, .int .i64 0, .int .i64 0, .int .i64 0, .int .i64 0, .string ⟨#[]⟩, .int .i64 0, .int .i64 0, .bool false, .int .i64 0, .string ⟨#[]⟩, .int .i64 0, .int .i64 0, .int .i64 0, .int .i64 0, .int .i64 0, .int .i64 0, .slice .none 0 0, .bool false, .int .i64 0, .int .i64 0] HP1.out HI.out rfl (by simp [Value.oneCell']) ?_) | fail)
    (try simp only [Exit.inBlock, Exit.then])
    refine bodyPost_ret (results_cell_row2 rfl _ _ p _ _ rfl rfl (run_loadVar_row _ p 46 46 #[.int .i64 0, .int .i64 0, .int .i64 0, .int .i64 0, .int .i64 0, .int .i64 0, .int .i64 0, .int .i64 0, .int .i64 0, .int .i64 0, .int .i64 0, .string ⟨#[]⟩, .int .i64 0, .int .i64 0, .bool false, .int .i64 0, .string ⟨#[]⟩, .int .i64 0, .int .i64 0, .int .i64 0, .int .i64 0, .int .i64 0, .int .i64 0, .slice .none 0 0, .bool false, .int .i64 0, .int .i64 0] (0, 0) _ (setRow_heap _ p _ _ _ _ HP1.out) Try.underlying46 rfl HI.out)) rfl ?_
    refine ⟨below_setRow B1.out (by rw [HPH.out]; exact Nat.le_refl _) _, Or.inl ⟨SF.out, rfl⟩⟩
end Go.Proofs.Ythboiklcjpnhbaa
/- a copy of a slice with three marked cells of room behind it (LendBytes), and whether such a copy is as it was (KeptBytes) -/
namespace Go.Proofs.Ythboiklcjpnhbaa
open Go.RowKit
set_option linter.unusedVariables false
set_option maxRecDepth 20000

theorem lendBytes_info : (Try.prog.info? 5).map (fun i => (i.zero, i.size, i.bytes)) = some (some (.int .u8 0), 1, 1) := by kernel_rfl
set_option maxHeartbeats 400000 in
theorem lendBytes_any (a : Option Addr) (n cap : Nat) (xs : List Value) (w : World) (h : HoldsV w a n xs) (hnil : a = none → n = 0 ∧ cap = 0) (hn : n ≤ 1048576) (h1 : ∀ u ∈ xs, u.oneCell' = true) :
    Calls Try.prog 24 #[.slice a n cap] w fun e w' => e = .returned (.slice (some ⟨w.heap.size, 0, none⟩) n (n + 3)) ∧ Below w.heap.size w w' ∧ Roomy w' w.heap.size 5 (.int .u8 119) n xs 3 := by
  obtain ⟨i0, hi, hz0, hz1, hz2⟩ := info_parts lendBytes_info
  obtain ⟨hl, hc⟩ := h
  have HC := Lib.hid hc; have HL := Lib.hid hl; have H1 := Lib.hid h1; have HN := Lib.hid hnil
  clear hc hl h1 hnil
  go_enter Try.func24, Try.ntmps24
  have HV : HoldsV w a n xs := ⟨HL.out, HC.out⟩
  replace HV := Lib.hid HV
  go_wp2_with (first | (at_make; refine wpList_make_own _ rfl _ _ 39 rfl w.heap.size 5 i0 (.int .u8 0) 1 Try.underlying39 hi hz0 hz1 _ _ _ (n + 3) rfl rfl (by omega) (by rw [hz2]; omega) (by unfold maxLen; omega) (Nat.le_refl _) ?_; intro w0 hown0 hgrow0) | (at_builtin; refine wpList_append_fits_any _ rfl (.tmp 10) (.tmp 11) 39 rfl w.heap.size 5 i0 1 Try.underlying39 hi hz1 w.heap.size 0 (n + 3) _ rfl hown0 a n cap xs rfl (by simpa using HL.out) HN.out (HV.out.cells hgrow0) H1.out (by omega) ?_; intro w1 hown1 hgrow1; simp only [Nat.zero_add, List.nil_append] at hown1))
  have hb0 : Below w.heap.size w w0 := below_grown hgrow0 (by intro k hk; cases hk)
  have hb1 : Below w.heap.size w w1 := hb0.grown hgrow1 hb0.size (by intro k hk; cases hk; exact Nat.le_refl _)
  have hr1 : Roomy w1 w.heap.size 5 (.int .u8 119) n xs 0 := roomy_of_own HL.out hown1
  have HB1 := Lib.hid hb1; have HR1 := Lib.hid hr1
  clear hb0 hb1 hr1 hown0 hown1 hgrow0 hgrow1
  go_loopw [5] (fun i wr => ∃ k : Nat, k ≤ 3 ∧ i = .int .i64 k ∧ Hid (Roomy wr w.heap.size 5 (.int .u8 119) n xs k) ∧ Hid (Below w.heap.size w wr)) (fun i _ => 3 - (intOf i).toNat)
  case atStart => exact ⟨0, by omega, rfl, HR1, HB1⟩
  case round =>
    obtain ⟨k, hk, rfl, hR, hB⟩ := hrel
    by_cases hlt : k < 3
    · obtain ⟨v, hv⟩ := hR.out.there (n + k) (by omega)
      have hf := hR.out.free (n + k)
      go_wp2
      go_roundw
      case rel => exact ⟨k + 1, by omega, by go_num, hR.out.put hlt, hB.out.setCell (Nat.le_refl _) _⟩
      case measure => simp [intOf]; omega
    · obtain rfl : k = 3 := by omega
      go_wp2
      go_ret
      exact ⟨rfl, hB.out, hR.out⟩
end Go.Proofs.Ythboiklcjpnhbaa
/- what was answered is written over, and beyond (OverBytes): nothing but its own block is written -/
namespace Go.Proofs.Ythboiklcjpnhbaa
open Go.RowKit
set_option linter.unusedVariables false
set_option maxRecDepth 20000
theorem ovgBytes_info : (Try.prog.info? 5).map (fun i => (i.zero, i.size, i.bytes)) = some (some (.int .u8 0), 1, 1) := by kernel_rfl
set_option maxHeartbeats 400000 in
/-- Written over is a slice of the call's own (its blocks lie from B on): below B nothing turns, and nothing but the slice's block. -/
theorem ovgBytes_any (B : Nat) (a : Option Addr) (n cap : Nat) (xs : List Value) (w : World) (h : w.ownsRow B 5 1 (.slice a n cap) n xs) (hB : B ≤ w.heap.size) (hn : n ≤ 1048576) :
    Calls Try.prog 22 #[.slice a n cap] w fun e w' => e = .returned (.tuple #[]) ∧ Below B w w' ∧ w.grownBy w' (Value.slice a n cap).ownBlock := by
  obtain ⟨i0, hi, hz0, hz1, hz2⟩ := info_parts ovgBytes_info
  have H := Lib.hid h
  clear h
  go_enter Try.func22, Try.ntmps22
  go_wp2_with fail
  go_loopw [2] (fun i wr => ∃ (k : Nat) (ys : List Value), k ≤ n ∧ i = .int .i64 k ∧ Hid (wr.ownsRow B 5 1 (.slice a n cap) n ys) ∧ Hid (Below B w wr) ∧ Hid (w.grownBy wr (Value.slice a n cap).ownBlock)) (fun i _ => n - (intOf i).toNat)
  case atStart => exact ⟨0, xs, by omega, rfl, H, Below.refl _ _, Lib.hid ⟨rfl, rfl, rfl, Nat.le_refl _, fun _ _ _ => rfl⟩⟩
  case round =>
    obtain ⟨k, ys, hk, rfl, hO, hBw, hGr⟩ := hrel
    by_cases hlt : k < n
    · obtain ⟨g, rfl⟩ : ∃ g, a = some ⟨g, 0, none⟩ := by
        obtain ⟨g, cap', hv⟩ := Joins.ownsRow_form hO.out (by omega)
        simp only [Value.slice.injEq] at hv
        exact ⟨g, hv.1⟩
      have hc := hO.out.cellAt k (by omega)
      have hyl : k < ys.length := by have := hO.out.1; omega
      rw [List.getElem?_eq_getElem hyl] at hc
      obtain ⟨y, hy⟩ : ∃ y, ys[k] = y := ⟨_, rfl⟩
      rw [hy] at hc
      clear hy hyl
      have hf := hO.out.frozenAt k
      have HG2 := Lib.hid (fun v => (⟨hGr.out.os, hGr.out.tape, hGr.out.output, by have := hGr.out.size; simpa using this, fun b hb hne => (Below.heap_setCell wr ⟨g, k, none⟩ v b (fun e => hne (by show some b = some g; rw [e]))).trans (hGr.out.block b hb hne)⟩ : w.grownBy (wr.setCell ⟨g, k, none⟩ v) (Value.slice (some ⟨g, 0, none⟩) n cap).ownBlock))
      go_wp2
      go_roundw
      case rel => exact ⟨k + 1, _, by omega, by go_num, Lib.hid (hO.out.stored k _).1, Lib.hid (hBw.out.setCell (p := ⟨g, k, none⟩) (hO.out.lt g rfl).1 _), Lib.hid (HG2.out _)⟩
      case measure => simp [intOf]; omega
    · have hs := hBw.out.size
      go_wp2_with (at_builtin; refine wpList_append_own _ rfl (.tmp 12) (.tmp 13) 39 rfl B 5 i0 (.int .u8 0) 1 1 Try.underlying39 hi hz0 hz1 hz2 rfl (by decide) _ n _ rfl (hO.out.alloc _) _ 1 1 _ rfl rfl (one_new _ _ _ _ _ rfl) (one_int _ _) (by unfold maxLen; omega) (by omega) (by simp; omega) ?_; intro v3 w3 hown3 hg3 hnil3)
      go_end0
      have hsz := hGr.out.size
      refine ⟨rfl, hBw.out.trans (((Below.refl _ _).alloc (by omega) _).grown hg3 (by simp; omega) fun k hk => (hO.out.lt k hk).1), ⟨hg3.os.trans hGr.out.os, hg3.tape.trans hGr.out.tape, hg3.output.trans hGr.out.output, ?_, fun b hb hne => ?_⟩⟩
      · have := hg3.size; simp at this; omega
      · rw [hg3.block b (by simp; omega) hne, Below.heap_alloc _ _ _ (by omega)]
        exact hGr.out.block b hb hne
end Go.Proofs.Ythboiklcjpnhbaa
/- An argument that is a slice of bytes, opened. -/
namespace Go.Proofs.Ythboiklcjpnhbaa
open Go.ChangeShapes Go.WideShapes Go.ChangeAt Go.RowKit
set_option linter.unusedVariables false
set_option maxRecDepth 20000
theorem Try.cellsU8 : Try.prog.cellsOf 5 = 1 := by kernel_rfl
theorem open_bytes_arg {H : Type} {enc : TypeId × Value → H} {W : World} {base : Nat} {v : Value} {d : DataW H} {p : List MemPlace}
    (o : Value.okWide Try.prog W .any base 39 v) (h : DataW.Trod enc Try.prog W 0 (fun _ => true) true 39 v d p) :
    ∃ a n cap bs, v = .slice a n cap ∧ HoldsB W a n bs ∧ (a = none → n = 0 ∧ cap = 0) ∧ n ≤ cap ∧ cap ≤ maxLen := by
  obtain ⟨a, n, cap, zs, rfl, hh, hnil, h1, h2, hw⟩ := open_ints_arg Try.underlying39 Try.underlying5 Try.cellsU8 o h
  have hz : (zs.map Int.toNat).map (fun b : Nat => (b : Int)) = zs := by
    rw [List.map_map]
    conv => rhs; rw [← List.map_id zs]
    refine List.map_congr_left fun z hz => ?_
    have := u8_of_wf (hw z hz)
    simp; omega
  refine ⟨a, n, cap, zs.map Int.toNat, rfl, ⟨by rw [hz]; exact hh, fun b hb => ?_⟩, hnil, h1, h2⟩
  obtain ⟨z, hz, rfl⟩ := List.mem_map.1 hb
  have := u8_of_wf (hw z hz)
  omega
end Go.Proofs.Ythboiklcjpnhbaa
