/- trace: Pending (by gen/tr5.py) -/
import Derived.Test.YthfoilnofljflaaTr4
import Derived.Test.YthfoilnofljflaaMv
namespace Go.Proofs.Ythfoilnofljflaa
open Go.RowKit
set_option linter.unusedVariables false
set_option maxRecDepth 20000
theorem zeroZ (w : World) : (zeroValue 3).run Try.prog w = .ok (.int .i64 0) w := by kernel_rfl
theorem mapTz : MapT 41 3 (.int .i64 0) := ⟨Try.underlying41, zeroZ⟩
/-- how often each is in a list -/
def hfZ (H : List Int) : Int → Option Value := fun x => if H.count x = 0 then none else some (.int .i64 ((H.count x : Nat) : Int))
theorem hfZ_get (H : List Int) (x : Int) (c : Nat) (h : H.count x = c) : (hfZ H x).getD (.int .i64 0) = .int .i64 (c : Int) := by
  unfold hfZ
  rw [h]
  by_cases e : c = 0
  · rw [if_pos e, e]; rfl
  · rw [if_neg e]; rfl
theorem hfZ_next (H : List Int) (x : Int) (c : Nat) (h : H.count x = c) : vset (hfZ H) x (some (.int .i64 ((c : Int) + 1))) = hfZ (H ++ [x]) := by
  funext y
  unfold vset hfZ
  rw [List.count_append]
  by_cases e : y = x
  · subst e
    rw [if_pos rfl, List.count_singleton_self, h, if_neg (by omega)]
    simp
  · rw [if_neg e, show List.count y [x] = 0 from List.count_eq_zero.2 (by simpa using e), Nat.add_zero]
/-- a map that counts -/
def HM (w : World) (mb : Nat) (H : List Int) : Prop := ∃ cnt, cnt ≤ H.length ∧ MapV w mb cnt (hfZ H)
theorem HM.next {w : World} {mb : Nat} {H : List Int} {x : Int} {c : Nat} {cnt : Nat} (hc : cnt ≤ H.length) (h : H.count x = c) {w' : World} (m : MapV w' mb (if (hfZ H x).isSome then cnt else cnt + 1) (vset (hfZ H) x (some (.int .i64 ((c : Int) + 1))))) : HM w' mb (H ++ [x]) := by
  rw [hfZ_next H x c h] at m
  refine ⟨_, ?_, m⟩
  rw [List.length_append, List.length_singleton]
  split <;> omega
theorem RecIn.turn {w w' : World} {p o : Nat} {x : RecP} {F : Nat → Prop} (h : RecIn w p o x) (t : Turn F w w') (hF : ¬ F p) : RecIn w' p o x := h.of fun i => t.cell (lt_of_cell h.1) hF
def heardR (x : RecP) : List Int := x.ls ++ (if 0 ≤ x.got then [x.got] else [])
def heardL (l : List RecP) : List Int := l.flatMap heardR
theorem heardL_app (k l : List RecP) : heardL (k ++ l) = heardL k ++ heardL l := by unfold heardL; rw [List.flatMap_append]
theorem heardL_next (l : List RecP) (j : Nat) (h : j < l.length) : heardL (l.take (j + 1)) = heardL (l.take j) ++ heardR (l.getD j r0) := by
  rw [take_succ_getD l r0 j h, heardL_app]
  simp [heardL]
theorem heardL_len : ∀ (l : List RecP), (∀ x ∈ l, x.ls.length ≤ 1000) → (heardL l).length ≤ 1001 * l.length
  | [], _ => Nat.le_refl _
  | x :: l, h => by
    have := heardL_len l (fun y hy => h y (by simp [hy]))
    have h2 := h x (by simp)
    rw [show heardL (x :: l) = heardR x ++ heardL l from rfl, List.length_append, List.length_cons]
    unfold heardR
    rw [List.length_append]
    split <;> simp <;> omega
def newL (H : List Int) (ss : List S3) : List Int := (ss.map (·.1)).filter fun z => decide (H.count z = 0)
def outL (H : List Int) (l : List RecP) : List Int := l.flatMap fun x => newL H x.ss
theorem outL_next (H : List Int) (l : List RecP) (j : Nat) (h : j < l.length) : outL H (l.take (j + 1)) = outL H (l.take j) ++ newL H (l.getD j r0).ss := by
  rw [take_succ_getD l r0 j h]
  unfold outL
  rw [List.flatMap_append]
  simp
theorem newL_next (H : List Int) (ss : List S3) (k : Nat) (h : k < ss.length) : newL H (ss.take (k + 1)) = newL H (ss.take k) ++ (if H.count (ss.getD k s30).1 = 0 then [(ss.getD k s30).1] else []) := by
  rw [take_succ_getD ss s30 k h]
  unfold newL
  rw [List.map_append, List.filter_append]
  congr 1
  by_cases e : H.count (ss.getD k s30).1 = 0
  · rw [if_pos e, List.map_singleton, List.filter_cons_of_pos (by simpa using e)]; rfl
  · rw [if_neg e, List.map_singleton, List.filter_cons_of_neg (by simpa using e)]; rfl
theorem newL_len (H : List Int) (ss : List S3) : (newL H ss).length ≤ ss.length := by
  unfold newL
  refine Nat.le_trans (List.length_filter_le _ _) (by simp)
theorem outL_len (H : List Int) : ∀ (l : List RecP), (∀ x ∈ l, x.ss.length ≤ 1000) → (outL H l).length ≤ 1000 * l.length
  | [], _ => Nat.le_refl _
  | x :: l, h => by
    have := outL_len H l (fun y hy => h y (by simp [hy]))
    have h2 := h x (by simp)
    have h3 := newL_len H x.ss
    rw [show outL H (x :: l) = newL H x.ss ++ outL H l from rfl, List.length_append, List.length_cons]
    omega
def pendL (l : List RecP) : List Int := canonZ (outL (heardL l) l)
theorem s3_new (w : World) (s : S3) (p : Nat) (e : TypeId) (fr : Nat × Nat) (hp : p = w.heap.size) : (w.alloc (.cells #[.int .i64 s.1, .int .i64 s.2.1, .int .i64 s.2.2] e fr)).cell? ⟨p, 0, none⟩ = some (.int .i64 s.1) := by
  subst hp
  rw [World.cell?_alloc_mark]; rfl
theorem base_lessT {w : World} {B B' : Nat} {e : TypeId} {size n : Nat} {v : Value} {xs : List Value} (h : w.ownsRow B e size v n xs) (hB : B' ≤ B) : w.ownsRow B' e size v n xs := by
  refine ⟨h.1, h.2.imp id ?_⟩
  rintro ⟨g, cap, cur, hv, hb, r⟩
  exact ⟨g, cap, cur, hv, by omega, r⟩
set_option maxHeartbeats 6400000 in
set_option maxRecDepth 100000 in
theorem tPending_any (a : Option Addr) (n cap : Nat) (xs : List RecP) (w : World) (h : HoldsRc w a n xs) (hn : n ≤ 1000) (hx : ∀ x ∈ xs, x.sn ≤ 1000 ∧ x.ln ≤ 1000) :
    Calls Try.prog 7 #[.slice a n cap] w (RetN w (pendL xs)) := by
  obtain ⟨i0, hi, hz0, hz1, hz2⟩ := info_parts tint_info
  have H := Lib.hid h
  have HN := Lib.hid h.len
  have HX := Lib.hid hx
  have LL := Lib.hid (show ∀ j, (heardL (xs.take j)).length ≤ 1001 * 1000 from fun j => by
    have := heardL_len (xs.take j) (fun x hm => by
      have h1 := List.mem_of_mem_take hm
      rw [(h.ok x h1).l.len]; exact (hx x h1).2)
    rw [List.length_take, h.len] at this
    omega)
  have OL := Lib.hid (show ∀ H j, (outL H (xs.take j)).length ≤ 1000 * 1000 from fun H j => by
    have := outL_len H (xs.take j) (fun x hm => by
      have h1 := List.mem_of_mem_take hm
      rw [(h.ok x h1).s.1]; exact (hx x h1).1)
    rw [List.length_take, h.len] at this
    omega)
  obtain ⟨mb, hmb⟩ : ∃ mb, w.heap.size = mb := ⟨_, rfl⟩
  obtain ⟨w1, hw1⟩ : ∃ w1, w.alloc (.map #[] 0) = w1 := ⟨_, rfl⟩
  have M1 := Lib.hid (show HM w1 mb [] from ⟨0, Nat.le_refl _, by
    have := mapV_made w
    rw [hw1, hmb] at this
    have e : hfZ [] = fun _ => none := by funext x; simp [hfZ]
    rw [e]; exact this⟩)
  have B1 := Lib.hid (show Below w.heap.size w w1 from hw1 ▸ below_one w _)
  have MB := Lib.hid hmb
  have hmm := @run_makeMap Try.prog
  clear h hx
  go_enter Try.func7, Try.ntmps7
  go_upto_region 2 with fail
  try rw [hw1]
  try simp only [hmb]
  clear hw1 hmb
  go_wp2_with fail
  clear hmm
  go_loopw [5, 7, 16] (fun bv lv iv wr => ∃ (j : Nat), j ≤ n ∧ iv = .int .i64 j ∧ Hid (HM wr mb (heardL (xs.take j))) ∧ Hid (Below w.heap.size w wr)) (fun _ _ iv _ => n - (intOf iv).toNat)
  case atStart => exact ⟨0, by omega, rfl, M1, B1⟩
  case round =>
    obtain ⟨j, hj, rfl, hM, hB⟩ := hrel
    by_cases hlt : j < n
    · obtain ⟨rb, ro, rfl, hc⟩ := (H.out.below hB.out).at_ (by omega)
      have hx12 := hc j hlt
      have hws := heardL_next xs j (by rw [HN.out]; exact hlt)
      have hmem := getD_memR (show j < xs.length by rw [HN.out]; exact hlt)
      have hok := H.out.ok _ hmem
      have hbx := HX.out _ hmem
      have hll := LL.out j
      obtain ⟨x, hxe⟩ : ∃ x, xs.getD j r0 = x := ⟨_, rfl⟩
      rw [hxe] at hx12 hws hok hbx
      obtain ⟨HH, hHH⟩ : ∃ HH, heardL (xs.take j) = HH := ⟨_, rfl⟩
      rw [hHH] at hws hll
      have hM' := hM.out
      rw [hHH] at hM'
      obtain ⟨c0, c1', c2', c3, c4, c5, c6, c7, c8, c9, c10, c11⟩ := hx12
      have i1 : (0 : Int) ≤ (j : Int) := by omega
      have i2 : (j : Int) < (n : Int) := by omega
      have BX := Lib.hid (below_one wr (.cells #[.int .i64 x.kd, .int .i64 x.nd, .int .i64 x.at_, .int .i64 x.ex, .string x.qt, .int .i64 x.qk, .int .i64 x.qn, .int .i64 x.vd, .int .i64 x.id, .slice x.sa x.sn x.sc, .int .i64 x.got, .slice x.la x.ln x.lc] 38))
      have SX := Lib.hid (recIn_new wr x wr.heap.size 38 (0, 0) rfl)
      have HW := Lib.hid hws
      have B3 := Lib.hid (hB.out.trans (BX.out.mono hB.out.size))
      have M3 := Lib.hid (show HM (wr.alloc (.cells #[.int .i64 x.kd, .int .i64 x.nd, .int .i64 x.at_, .int .i64 x.ex, .string x.qt, .int .i64 x.qk, .int .i64 x.qn, .int .i64 x.vd, .int .i64 x.id, .slice x.sa x.sn x.sc, .int .i64 x.got, .slice x.la x.ln x.lc] 38)) mb HH from by obtain ⟨cnt, h1, h2⟩ := hM'; exact ⟨cnt, h1, h2.below BX.out⟩)
      have MU := Lib.hid (show mb < wr.heap.size from by obtain ⟨cnt, h1, h2⟩ := hM'; exact h2.lt)
      have OK := Lib.hid hok
      have BD := Lib.hid hbx
      have LB := Lib.hid hll
      have LN := Lib.hid (show x.ls.length = x.ln from hok.l.len)
      clear hc hxe hws hmem hok hbx hll hHH hM' hM
      go_upto_region 5 with fail
      clear c0 c1' c2' c3 c4 c5 c6 c7 c8 c9 c10 c11
      generalize wr.alloc (.cells #[.int .i64 x.kd, .int .i64 x.nd, .int .i64 x.at_, .int .i64 x.ex, .string x.qt, .int .i64 x.qk, .int .i64 x.qn, .int .i64 x.vd, .int .i64 x.id, .slice x.sa x.sn x.sc, .int .i64 x.got, .slice x.la x.ln x.lc] 38) = w3 at *
      generalize wr.heap.size = u at *
      obtain ⟨-, -, -, -, -, -, -, -, -, -, -, y11⟩ := SX.out
      simp only [Nat.zero_add] at y11
      go_wp2_with fail
      clear y11
      go_loopw [7, 23] (fun lv kv wk => ∃ (k : Nat), k ≤ x.ln ∧ kv = .int .i64 k ∧ Hid (HM wk mb (HH ++ x.ls.take k)) ∧ Hid (Turn (fun q => q = mb) w3 wk)) (fun _ kv _ => x.ln - (intOf kv).toNat)
      case atStart => exact ⟨0, by omega, rfl, Lib.hid (by simpa using M3.out), Lib.hid (Turn.refl _ _)⟩
      case round =>
        obtain ⟨k, hk, rfl, hMk, hTk⟩ := hrel
        have hlb := BD.out.2
        have Bk := Lib.hid (show Below w.heap.size w wr from B3.out.trans (hTk.out.below (fun q hq => by have := MB.out; omega) B3.out.size))
        by_cases hkl : k < x.ln
        · obtain ⟨lb, lo, hla, hlc⟩ := (OK.out.l.below Bk.out).2 (by omega)
          have hz := hlc k hkl
          have wfz := OK.out.wl (x.ls.getD k 0) (by rw [List.getD_eq_getElem?_getD, List.getElem?_eq_getElem (by rw [LN.out]; exact hkl)]; exact List.getElem_mem _)
          have hnx := take_succ_getD x.ls 0 k (by rw [LN.out]; exact hkl)
          obtain ⟨z, hze⟩ : ∃ z, x.ls.getD k 0 = z := ⟨_, rfl⟩
          rw [hze] at hz wfz hnx
          obtain ⟨G, hG⟩ : ∃ G, HH ++ x.ls.take k = G := ⟨_, rfl⟩
          have hMk' := hMk.out
          rw [hG] at hMk'
          obtain ⟨cnt, hcn, hmv⟩ := hMk'
          obtain ⟨c, hcc⟩ : ∃ c, G.count z = c := ⟨_, rfl⟩
          have hgl : G.length ≤ 1003000 := by
            rw [← hG, List.length_append, List.length_take]
            have h1 := LB.out; have h2 := BD.out.2; omega
          have hcl : c ≤ 1003000 := by rw [← hcc]; exact Nat.le_trans (List.count_le_length) hgl
          have EC := Lib.hid (hfZ_get G z c hcc)
          have WF := Lib.hid (show wfI z from wfz)
          have MV := Lib.hid hmv
          have GN := Lib.hid (show HH ++ x.ls.take (k + 1) = G ++ [z] from by rw [hnx, ← List.append_assoc, hG])
          have CC := Lib.hid hcc
          have CN := Lib.hid (And.intro hcn hgl)
          have ew : IntKind.i64.wrap ((c : Int) + 1) = (c : Int) + 1 := by rw [IntKind.wrap_i64]; omega
          have j1 : (0 : Int) ≤ (k : Int) := by omega
          have j2 : (k : Int) < (x.ln : Int) := by omega
          rw [hla]
          clear hlc wfz hnx hze hG hmv hcc hgl hcl hMk hcn hla
          go_wp2_with (first | (at_lookup; refine wpList_get_mv mapTz rfl (.tmp 27) (.tmp 28) rfl rfl MV.out z rfl WF.out (.int .i64 (c : Int)) EC.out ?_) | (at_mapUpdate; refine wpList_put_mv mapTz rfl (.tmp 27) (.tmp 28) (.tmp 30) rfl rfl MV.out (by have := CN.out; unfold maxLen; omega) z (.int .i64 ((c : Int) + 1)) rfl rfl WF.out ?_; intro w6 m6 t6))
          have M6 := Lib.hid (HM.next (w := w6) CN.out.1 CC.out m6)
          have T6 := Lib.hid (hTk.out.trans (TurnV.of_mapTurned t6 rfl))
          clear m6 t6
          go_roundw
          case rel => exact ⟨k + 1, by omega, by go_num, Lib.hid (by rw [GN.out]; exact M6.out), T6⟩
          case measure => simp [intOf]; omega
        · obtain rfl : k = x.ln := by omega
          have SK := Lib.hid (SX.out.turn hTk.out (by have := MU.out; omega))
          have hM2 := hMk.out
          rw [List.take_of_length_le (by rw [LN.out]; exact Nat.le_refl _)] at hM2
          obtain ⟨G, hG⟩ : ∃ G, HH ++ x.ls = G := ⟨_, rfl⟩
          rw [hG] at hM2
          have HW2 := Lib.hid (show heardL (xs.take (j + 1)) = G ++ (if 0 ≤ x.got then [x.got] else []) from by rw [HW.out]; unfold heardR; rw [← List.append_assoc, hG])
          have hgl : G.length ≤ 1003000 := by
            rw [← hG, List.length_append, LN.out]
            have h1 := LB.out; have h2 := BD.out.2; omega
          obtain ⟨-, -, -, -, -, -, -, -, -, -, y10, -⟩ := SK.out
          simp only [Nat.zero_add] at y10
          have GOT := Lib.hid OK.out.g
          obtain ⟨g, hg⟩ : ∃ g, x.got = g := ⟨_, rfl⟩
          rw [hg] at y10 HW2 GOT
          by_cases h0 : 0 ≤ g
          · have d1 : decide (g ≥ 0) = true := decide_eq_true h0
            have d1' : decide (0 ≤ g) = true := decide_eq_true h0
            obtain ⟨cnt, hcn, hmv⟩ := hM2
            obtain ⟨c, hcc⟩ : ∃ c, G.count g = c := ⟨_, rfl⟩
            have hcl : c ≤ 1003000 := by rw [← hcc]; exact Nat.le_trans (List.count_le_length) hgl
            have EC := Lib.hid (hfZ_get G g c hcc)
            have WF := Lib.hid (show wfI g from GOT.out)
            have MV := Lib.hid hmv
            have GN := Lib.hid (show heardL (xs.take (j + 1)) = G ++ [g] from by rw [HW2.out, if_pos h0])
            have CC := Lib.hid hcc
            have CN := Lib.hid (And.intro hcn hgl)
            have ew : IntKind.i64.wrap ((c : Int) + 1) = (c : Int) + 1 := by rw [IntKind.wrap_i64]; omega
            clear hG hmv hcc hgl hcl hMk hcn hg h0 HW2
            go_wp2_with (first | (at_lookup; refine wpList_get_mv mapTz rfl (.tmp 35) (.tmp 37) rfl rfl MV.out g rfl WF.out (.int .i64 (c : Int)) EC.out ?_) | (at_mapUpdate; refine wpList_put_mv mapTz rfl (.tmp 35) (.tmp 37) (.tmp 39) rfl rfl MV.out (by have := CN.out; unfold maxLen; omega) g (.int .i64 ((c : Int) + 1)) rfl rfl WF.out ?_; intro w6 m6 t6))
            have M6 := Lib.hid (HM.next (w := w6) CN.out.1 CC.out m6)
            have B6 := Lib.hid (show Below w.heap.size w w6 from Bk.out.trans ((TurnV.of_mapTurned (F := fun q => q = mb) t6 rfl).below (fun q hq => by have := MB.out; omega) Bk.out.size))
            clear m6 t6
            go_roundw
            case rel => exact ⟨j + 1, by omega, by go_num, Lib.hid (by rw [GN.out]; exact M6.out), B6⟩
            case measure => simp [intOf]; omega
          · have d1 : decide (g ≥ 0) = false := decide_eq_false h0
            have d1' : decide (0 ≤ g) = false := decide_eq_false h0
            have M6 := Lib.hid (show HM wr mb (heardL (xs.take (j + 1))) from by rw [HW2.out, if_neg h0, List.append_nil]; exact hM2)
            clear hG hgl hMk hM2 hg h0 HW2
            go_wp2_with fail
            go_roundw
            case rel => exact ⟨j + 1, by omega, by go_num, M6, Bk⟩
            case measure => simp [intOf]; omega
    · obtain rfl : n = j := by omega
      have hM' := hM.out
      rw [List.take_of_length_le (by rw [HN.out]; exact Nat.le_refl _)] at hM'
      have PP := Lib.hid (show pendL xs = canonZ (outL (heardL xs) xs) from rfl)
      obtain ⟨G, hG⟩ : ∃ G, heardL xs = G := ⟨_, rfl⟩
      rw [hG] at hM' PP
      obtain ⟨wq, hwq⟩ : ∃ wq, wq = wr := ⟨_, rfl⟩
      have MQ := Lib.hid hM'
      have BQ := hB
      subst hwq
      have SQ := Lib.hid hB.out.size
      clear hG hM hM' LL hB hlt hj
      go_wp2_with fail
      go_loopw [8, 10, 12, 43] (fun ov bv tv iv wr => ∃ (j : Nat) (K : List Int) (av : Option Addr) (cv : Nat), j ≤ n ∧ iv = .int .i64 j ∧ ov = .slice av K.length cv ∧ Hid (K = outL G (xs.take j)) ∧ Hid (wr.ownsRow wq.heap.size 3 1 (.slice av K.length cv) K.length (intsV K)) ∧ Hid (Below wq.heap.size wq wr)) (fun _ _ _ iv _ => n - (intOf iv).toNat)
      case atStart => exact ⟨0, [], none, 0, by omega, rfl, rfl, Lib.hid rfl, Lib.hid (World.ownsRow_nil _ _ _ _), Lib.hid (Below.refl _ _)⟩
      case round =>
        obtain ⟨j, K, av, cv, hj, rfl, rfl, hK, hO, hB⟩ := hrel
        have HB := Lib.hid (show Below w.heap.size w wr from BQ.out.trans (hB.out.mono SQ.out))
        by_cases hlt : j < n
        · obtain ⟨rb, ro, rfl, hc⟩ := (H.out.below HB.out).at_ (by omega)
          have hx12 := hc j hlt
          have hws := outL_next G xs j (by rw [HN.out]; exact hlt)
          have hmem := getD_memR (show j < xs.length by rw [HN.out]; exact hlt)
          have hok := H.out.ok _ hmem
          have hbx := HX.out _ hmem
          have hol := OL.out G (j + 1)
          obtain ⟨x, hxe⟩ : ∃ x, xs.getD j r0 = x := ⟨_, rfl⟩
          rw [hxe] at hx12 hws hok hbx
          rw [← hK.out] at hws
          rw [hws] at hol
          obtain ⟨c0, c1', c2', c3, c4, c5, c6, c7, c8, c9, c10, c11⟩ := hx12
          have i1 : (0 : Int) ≤ (j : Int) := by omega
          have i2 : (j : Int) < (n : Int) := by omega
          have BX := Lib.hid (below_one wr (.cells #[.int .i64 x.kd, .int .i64 x.nd, .int .i64 x.at_, .int .i64 x.ex, .string x.qt, .int .i64 x.qk, .int .i64 x.qn, .int .i64 x.vd, .int .i64 x.id, .slice x.sa x.sn x.sc, .int .i64 x.got, .slice x.la x.ln x.lc] 38))
          have SX := Lib.hid (recIn_new wr x wr.heap.size 38 (0, 0) rfl)
          have HW := Lib.hid hws
          have O3 := Lib.hid (owns_below hO.out BX.out)
          have B3 := Lib.hid (hB.out.trans (BX.out.mono hB.out.size))
          have OK := Lib.hid hok
          have hlb := hbx.1
          have OLL := Lib.hid hol
          have LN := Lib.hid (show x.ss.length = x.sn from hok.s.1)
          clear hc hxe hws hmem hok hbx hol HB
          go_upto_region 17 with fail
          clear c0 c1' c2' c3 c4 c5 c6 c7 c8 c9 c10 c11
          generalize wr.alloc (.cells #[.int .i64 x.kd, .int .i64 x.nd, .int .i64 x.at_, .int .i64 x.ex, .string x.qt, .int .i64 x.qk, .int .i64 x.qn, .int .i64 x.vd, .int .i64 x.id, .slice x.sa x.sn x.sc, .int .i64 x.got, .slice x.la x.ln x.lc] 38) = w3 at *
          generalize wr.heap.size = u at *
          obtain ⟨-, -, -, -, -, -, -, -, -, y9, -, -⟩ := SX.out
          simp only [Nat.zero_add] at y9
          go_wp2_with fail
          clear y9 SX
          go_loopw [8, 12, 50] (fun ov tv kv wr => ∃ (k : Nat) (L : List Int) (av : Option Addr) (cv : Nat), k ≤ x.sn ∧ kv = .int .i64 k ∧ ov = .slice av L.length cv ∧ Hid (L = K ++ newL G (x.ss.take k)) ∧ Hid (wr.ownsRow wq.heap.size 3 1 (.slice av L.length cv) L.length (intsV L)) ∧ Hid (Below wq.heap.size wq wr)) (fun _ _ kv _ => x.sn - (intOf kv).toNat)
          case atStart => exact ⟨0, K, av, cv, by omega, rfl, rfl, Lib.hid (by simp [newL]), O3, B3⟩
          case round =>
            obtain ⟨k, L, av2, cv2, hk, rfl, rfl, hL, hO2, hB2⟩ := hrel
            have HB2 := Lib.hid (show Below w.heap.size w wr from BQ.out.trans (hB2.out.mono SQ.out))
            by_cases hkl : k < x.sn
            · obtain ⟨sb, so, hsa, hsc⟩ := (OK.out.s.below HB2.out).2 (by omega)
              have hz := hsc k hkl
              have wfz := OK.out.ws (x.ss.getD k s30) (by rw [List.getD_eq_getElem?_getD, List.getElem?_eq_getElem (by rw [LN.out]; exact hkl)]; exact List.getElem_mem _)
              have hnx := newL_next G x.ss k (by rw [LN.out]; exact hkl)
              obtain ⟨s, hse⟩ : ∃ s, x.ss.getD k s30 = s := ⟨_, rfl⟩
              rw [hse] at hz wfz hnx
              obtain ⟨z0, z1, z2⟩ := hz
              obtain ⟨cnt, hcn, hmv⟩ := MQ.out
              obtain ⟨c, hcc⟩ : ∃ c, G.count s.1 = c := ⟨_, rfl⟩
              have EC := Lib.hid (hfZ_get G s.1 c hcc)
              have WF := Lib.hid (show wfI s.1 from wfz)
              have hnn := newL_len G (x.ss.take k)
              have hlen : L.length ≤ 1001000 := by
                rw [hL.out, List.length_append]
                have h1 := OLL.out
                rw [List.length_append] at h1
                rw [List.length_take] at hnn
                omega
              have GN := Lib.hid (show K ++ newL G (x.ss.take (k + 1)) = L ++ (if c = 0 then [s.1] else []) from by rw [hnx, hcc, ← List.append_assoc, ← hL.out])
              have BX := Lib.hid (below_one wr (.cells #[.int .i64 s.1, .int .i64 s.2.1, .int .i64 s.2.2] 40))
              have S0 := Lib.hid (s3_new wr s wr.heap.size 40 (0, 0) rfl)
              have O4 := Lib.hid (owns_below hO2.out BX.out)
              have B4 := Lib.hid (hB2.out.trans (BX.out.mono hB2.out.size))
              have QL := Lib.hid (show mb < wq.heap.size from hmv.lt)
              have MV := Lib.hid (show MapV (wr.alloc (.cells #[.int .i64 s.1, .int .i64 s.2.1, .int .i64 s.2.2] 40)) mb cnt (hfZ G) from hmv.block (B4.out.block mb hmv.lt))
              have j1 : (0 : Int) ≤ (k : Int) := by omega
              have j2 : (k : Int) < (x.sn : Int) := by omega
              rw [hsa]
              clear hsc wfz hnx hse hmv hcc hnn hsa hO2 hB2 hcn
              go_upto_region 20 with fail
              clear z0 z1 z2
              generalize wr.alloc (.cells #[.int .i64 s.1, .int .i64 s.2.1, .int .i64 s.2.2] 40) = w5 at *
              generalize wr.heap.size = u5 at *
              have y0 := S0.out
              have WS := Lib.hid B4.out.size
              by_cases h0 : c = 0
              · subst h0
                have K2 := Lib.hid (show K ++ newL G (x.ss.take (k + 1)) = L ++ [s.1] from by rw [GN.out, if_pos rfl])
                clear GN
                have EC0 := Lib.hid (show (hfZ G s.1).getD (.int .i64 0) = .int .i64 0 from EC.out)
                go_wp2_with (first | (at_lookup; refine wpList_get_mv mapTz rfl (.tmp 54) (.tmp 56) rfl rfl MV.out s.1 rfl WF.out (.int .i64 0) EC0.out ?_) | (at_builtin; refine wpList_append_any rfl (.tmp 59) (.tmp 62) 28 rfl wq.heap.size 3 i0 _ 1 8 Try.underlying28 hi hz0 hz1 hz2 rfl (by decide) _ L.length _ rfl (O4.out.alloc _) _ 1 1 [.int .i64 s.1] rfl (some_none _) rfl (one_new _ _ _ _) (one_int _ _) (by unfold maxLen; omega) (by omega) (by have := WS.out; simp; omega) ?_; intro a6 c6 w6 hown6 hb6 hnil6))
                have O6 := Lib.hid (show w6.ownsRow wq.heap.size 3 1 (.slice a6 (L ++ [s.1]).length c6) (L ++ [s.1]).length (intsV (L ++ [s.1])) from by
                  rw [List.length_append, show intsV (L ++ [s.1]) = intsV L ++ [.int .i64 s.1] from by simp [intsV]]; exact hown6)
                have B6 := Lib.hid (B4.out.trans (((below_one w5 (.cells #[.int .i64 s.1] 3)).mono B4.out.size).trans hb6))
                clear hown6 hb6 hnil6
                go_roundw
                case rel => exact ⟨k + 1, L ++ [s.1], a6, c6, by omega, by go_num, by simp, Lib.hid K2.out.symm, O6, B6⟩
                case measure => simp [intOf]; omega
              · have n0 : ((c : Int) == 0) = false := by rw [beq_eq_false_iff_ne]; omega
                have K2 := Lib.hid (show K ++ newL G (x.ss.take (k + 1)) = L from by rw [GN.out, if_neg h0, List.append_nil])
                clear GN h0
                go_wp2_with (at_lookup; refine wpList_get_mv mapTz rfl (.tmp 54) (.tmp 56) rfl rfl MV.out s.1 rfl WF.out (.int .i64 (c : Int)) EC.out ?_)
                go_roundw
                case rel => exact ⟨k + 1, L, av2, cv2, by omega, by go_num, rfl, Lib.hid K2.out.symm, O4, B4⟩
                case measure => simp [intOf]; omega
            · obtain rfl : k = x.sn := by omega
              have K2 := Lib.hid (show outL G (xs.take (j + 1)) = L from by
                rw [HW.out, hL.out, List.take_of_length_le (by rw [LN.out]; exact Nat.le_refl _)])
              clear hL
              go_wp2_with fail
              go_roundw
              case rel => exact ⟨j + 1, L, av2, cv2, by omega, by go_num, rfl, Lib.hid K2.out.symm, hO2, hB2⟩
              case measure => simp [intOf]; omega
        · obtain rfl : n = j := by omega
          have hK' := hK.out
          rw [List.take_of_length_le (by rw [HN.out]; exact Nat.le_refl _)] at hK'
          have PP2 := Lib.hid (show pendL xs = canonZ K from by rw [PP.out, ← hK'])
          have hol := OL.out G n
          rw [← hK.out] at hol
          have FF := Lib.hid (show ∀ (a2 : Option Addr) (c2 : Nat) (w2 : World), w2.ownsRow wq.heap.size 3 1 (.slice a2 (canonZ K).length c2) (canonZ K).length (intsV (canonZ K)) → Below wq.heap.size wq w2 → RetN w (pendL xs) (.returned (.slice a2 (canonZ K).length c2)) w2 from fun a2 c2 w2 h1 h2 =>
            ⟨a2, c2, by rw [PP2.out], by rw [PP2.out]; exact base_lessT h1 SQ.out, BQ.out.trans (h2.mono SQ.out)⟩)
          clear hK hK' PP PP2 HX OL hlt hj
          rcases Joins.ownsRow_forms hO.out with ⟨e1, h0⟩ | ⟨g, cap2, e1⟩
          · simp only [Value.slice.injEq] at e1
            obtain ⟨rfl, -, rfl⟩ := e1
            obtain rfl : K = [] := List.eq_nil_of_length_eq_zero h0
            have ce : canonZ ([] : List Int) = [] := List.eq_nil_of_length_eq_zero (by have := canonZ_len []; simpa using this)
            have F0 := FF.out
            rw [ce] at F0
            have FF0 := Lib.hid (show RetN w (pendL xs) (.returned (.slice none 0 0)) wr from F0 none 0 wr (World.ownsRow_nil _ _ _ _) hB.out)
            clear F0 ce
            clear FF h0
            go_wp2_with (first | (go_at_call 10; refine (sortZ_none _).mono ?_; rintro e w' ⟨rfl, rfl⟩) | (go_at_call 11; refine (compactZ_none _).mono ?_; rintro e w' ⟨rfl, rfl⟩))
            go_ret
            exact FF0.out
          · simp only [Value.slice.injEq] at e1
            obtain ⟨rfl, -, rfl⟩ := e1
            have CS := Lib.hid (sortZ_some g K.length cv wq.heap.size K wr hO.out (by omega))
            obtain ⟨kl, hkl⟩ : ∃ kl, K.length = kl := ⟨_, rfl⟩
            have HKL := Lib.hid hkl
            rw [hkl] at CS hol ⊢
            clear hkl
            go_wp2_with fail
            with_reducible refine CS.out.mono ?_
            rintro e w4 ⟨rfl, ho4, hb4⟩
            have B4 := Lib.hid (hb4 _ _ rfl hB.out)
            have CC := Lib.hid (compactZ_some g kl cv wq.heap.size (K.mergeSort fun x y => decide (x ≤ y)) w4 ho4 (by omega))
            clear ho4 hb4 CS
            go_wp2_with fail
            with_reducible refine CC.out.mono ?_
            rintro e w5 ⟨rfl, ho5, hb5⟩
            have F5 := Lib.hid (FF.out _ _ w5 ho5 (hb5 _ _ rfl B4.out))
            clear ho5 hb5 CC
            go_wp2_with fail
            go_ret
            exact F5.out
end Go.Proofs.Ythfoilnofljflaa
