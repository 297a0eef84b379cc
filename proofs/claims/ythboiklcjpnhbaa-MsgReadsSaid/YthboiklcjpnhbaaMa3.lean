/- msg: fields and frames (by gen/ma3.py) -/
import Derived.Test.YthboiklcjpnhbaaMa2
import Derived.Test.YthboiklcjpnhbaaCd3
import Derived.Test.YthboiklcjpnhbaaPk0
namespace Go.Proofs.Ythboiklcjpnhbaa
open Go.RowKit
set_option linter.unusedVariables false
set_option maxRecDepth 20000
/-- bytes that a slice holds, whoever made them, since w0 -/
structure BB (w0 : World) (bs : List Nat) (a : Option Addr) (c : Nat) (w : World) : Prop where
  h : HoldsB w a bs.length bs
  n : a = none → bs.length = 0 ∧ c = 0
  b : Below w0.heap.size w0 w
theorem BB.more {w0 w w' : World} {bs : List Nat} {a : Option Addr} {c : Nat} (h : BB w0 bs a c w) (hb : Below w.heap.size w w') : BB w0 bs a c w' := ⟨h.h.below hb, h.n, h.b.trans (hb.mono h.b.size)⟩
theorem BB.lt {w0 w : World} {bs : List Nat} {a : Option Addr} {c : Nat} (h : BB w0 bs a c w) : ∀ b ∈ bs, b < 256 := h.h.2
def RBB (w0 w : World) (o : List Nat) (n : Nat) (e : Ending) (w' : World) : Prop := ∃ a c, e = .returned (.slice a n c) ∧ o.length = n ∧ BB w0 o a c w' ∧ Below w.heap.size w w'
theorem BB.of_ret {w0 w w' : World} {bs : List Nat} {e : Ending} {n : Nat} (hb : Below w0.heap.size w0 w) (h : RetB 5 w bs e w') (hl : ∀ b ∈ bs, b < 256) (hn : bs.length = n) : RBB w0 w bs n e w' := by
  subst hn
  obtain ⟨a, c, rfl, h1, h2, h3⟩ := h
  exact ⟨a, c, rfl, rfl, ⟨holdsB_of_values (owns_holds h1) hl, h3, hb.trans (h2.mono hb.size)⟩, h2⟩
def n4 (v : Int) : List Nat := Cod.bytesOf (bitsV v) 4
def n1 (v : Int) : List Nat := Cod.bytesOf (bitsV v) 1
def tB (s : Tx) : List Nat := Cod.bytesOf (cutS s).size 2 ++ strB (cutS s)
def fB (f : Bool) : List Nat := n1 (if f then 1 else 0)
def itB (k : KV) : List Nat := n1 k.1 ++ tB k.2
def nsB (zs : List Int) : List Nat := zs.flatMap n4
def itsB (ks : List KV) : List Nat := ks.flatMap itB
theorem n4_len (v : Int) : (n4 v).length = 4 := Cod.bytesOf_length _ _
theorem n1_len (v : Int) : (n1 v).length = 1 := Cod.bytesOf_length _ _
theorem fB_len (f : Bool) : (fB f).length = 1 := n1_len _
theorem tB_len (s : Tx) (h : s.size ≤ 65535) : (tB s).length = 2 + s.size := by
  unfold tB; rw [cutS_small s h, List.length_append, Cod.bytesOf_length, strB_length]
theorem itB_len (k : KV) (h : k.2.size ≤ 65535) : (itB k).length = 3 + k.2.size := by
  unfold itB; rw [List.length_append, n1_len, tB_len _ h]; omega
theorem nsB_len (zs : List Int) : (nsB zs).length = 4 * zs.length := by
  unfold nsB
  induction zs with
  | nil => rfl
  | cons z zs ih => rw [List.flatMap_cons, List.length_append, n4_len, ih, List.length_cons]; omega
theorem itsB_len (ks : List KV) (h : ∀ k ∈ ks, k.2.size ≤ 1100) : (itsB ks).length ≤ 1103 * ks.length := by
  unfold itsB
  induction ks with
  | nil => simp
  | cons k ks ih =>
    rw [List.flatMap_cons, List.length_append, itB_len k (by have := h k (by simp); omega), List.length_cons]
    have := ih (fun x hx => h x (by simp [hx]))
    have := h k (by simp)
    omega
theorem pput (v : Int) (s : Nat) (si : Int) (hsi : si = (s : Int)) (hs : s ≤ 8) (o : List Nat) (m : Nat) {w0 w : World} {bs : List Nat} {n : Nat} {a : Option Addr} {c : Nat} (h : BB w0 bs a c w) (hn : bs.length = n) (hl : n ≤ 524288) (ho : bs ++ Cod.bytesOf (bitsV v) s = o) (hm : n + s = m) :
    Calls Try.prog 64 #[.slice a n c, .int .i64 v, .int .i64 si] w (RBB w0 w o m) := by
  subst ho hsi hn hm
  refine (put_any a bs.length c bs v (s : Int) w h.h h.n hl).mono ?_
  rintro e w' hr
  have e1 : sizeV (s : Int) = s := by unfold sizeV; omega
  rw [e1] at hr
  exact BB.of_ret h.b hr (fun x hx => by
    rcases List.mem_append.1 hx with hx | hx
    · exact h.lt x hx
    · exact Cod.bytesOf_lt _ _ x hx) (by rw [List.length_append, Cod.bytesOf_length])
theorem tB_lt (s : Tx) : ∀ b ∈ tB s, b < 256 := fun b hb => by
  rcases List.mem_append.1 hb with hb | hb
  · exact Cod.bytesOf_lt _ _ b hb
  · exact strB_lt _ b hb
theorem ptext (s : Tx) (o : List Nat) (m : Nat) {w0 w : World} {bs : List Nat} {n : Nat} {a : Option Addr} {c : Nat} (h : BB w0 bs a c w) (hn : bs.length = n) (hl : n ≤ 262144) (hs : s.size ≤ 1100) (ho : bs ++ tB s = o) (hm : n + (2 + s.size) = m) :
    Calls Try.prog 85 #[.slice a n c, .string s] w (RBB w0 w o m) := by
  subst ho hn hm
  refine (putText_any a bs.length c bs s w h.h h.n hl (by omega)).mono ?_
  rintro e w' hr
  have e1 : putTextV bs s = bs ++ tB s := by unfold putTextV tB; rw [List.append_assoc]
  rw [e1] at hr
  exact BB.of_ret h.b hr (fun x hx => by
    rcases List.mem_append.1 hx with hx | hx
    · exact h.lt x hx
    · exact tB_lt s x hx) (by rw [List.length_append, tB_len s (by omega)])
theorem holdsI_lit (w : World) (zs : List Int) (e : TypeId) (fr : Nat × Nat) : HoldsI .i64 (w.alloc (.cells (zs.map (Value.int .i64)).toArray e fr)) (some ⟨w.heap.size, 0, none⟩) zs.length zs := by
  refine ⟨rfl, fun _ => ⟨w.heap.size, 0, rfl, fun i hi => ?_⟩⟩
  rw [Nat.zero_add, World.cell?_alloc_mark]
  simp [hi, List.getD_eq_getElem?_getD]
theorem nsB_snoc (zs : List Int) (j : Nat) (h : j < zs.length) : nsB (zs.take (j + 1)) = nsB (zs.take j) ++ n4 (zs.getD j 0) := by
  have e : zs.take (j + 1) = zs.take j ++ [zs.getD j 0] := by
    rw [List.take_add_one, List.getElem?_eq_getElem h, List.getD_eq_getElem?_getD, List.getElem?_eq_getElem h]; rfl
  unfold nsB
  rw [e, List.flatMap_append]; simp
set_option maxHeartbeats 1600000 in
theorem numbers_any (a : Option Addr) (n c : Nat) (zs : List Int) (m : Nat) (w : World) (h : HoldsI .i64 w a n zs) (hn : n ≤ 8) (hm : 4 * n = m) :
    Calls Try.prog 84 #[.slice a n c] w (RBB w w (nsB zs) m) := by
  have HH := Lib.hid h
  have HL := Lib.hid h.1
  have HM := Lib.hid hm
  clear h hm
  go_enter Try.func84, Try.ntmps84
  go_wp2_with fail
  go_loopw [3, 8] (fun bv iv wr => ∃ (j k : Nat) (bs : List Nat) (ba : Option Addr) (bc : Nat), j ≤ n ∧ bv = .slice ba k bc ∧ iv = .int .i64 (j : Int) ∧ Hid (k = 4 * j) ∧ Hid (bs.length = k) ∧ Hid (bs = nsB (zs.take j)) ∧ Hid (BB w bs ba bc wr)) (fun _ iv _ => n - (intOf iv).toNat)
  case atStart => exact ⟨0, 0, [], none, 0, by omega, rfl, rfl, Lib.hid rfl, Lib.hid rfl, Lib.hid (by simp [nsB]), Lib.hid ⟨holdsB_nil _ _, fun _ => ⟨rfl, rfl⟩, Below.refl _ _⟩⟩
  case round =>
    obtain ⟨j, k, bs, ba, bc, hj, rfl, rfl, hk4, hk, hbs, hB⟩ := hrel
    rename World => wr
    by_cases hlt : j < n
    · obtain ⟨qb, qo, rfl, hcc⟩ := (HH.out.below hB.out.b).at (by omega)
      have x0 := hcc j hlt
      obtain ⟨z, hz⟩ : ∃ z, zs.getD j 0 = z := ⟨_, rfl⟩
      rw [hz] at x0
      have HS := Lib.hid (show nsB (zs.take (j + 1)) = bs ++ n4 z from by rw [hbs.out, nsB_snoc zs j (by rw [HL.out]; exact hlt), hz])
      have CP := Lib.hid (pput z 4 4 rfl (by omega) (bs ++ n4 z) (k + 4) hB.out hk.out (by have := hk4.out; omega) rfl rfl)
      have n1' : (0 : Int) ≤ (j : Int) := by omega
      have n2' : (j : Int) < (n : Int) := by omega
      obtain ⟨kk, hkk⟩ : ∃ kk, k + 4 = kk := ⟨_, rfl⟩
      have k4 := Lib.hid (show kk = 4 * (j + 1) from by have := hk4.out; omega)
      rw [hkk] at CP
      clear hcc hz hkk
      go_wp2_with fail
      with_reducible refine CP.out.mono ?_
      rintro e w' ⟨a2, c2, rfl, hl2, hB2, -⟩
      have B2 := Lib.hid hB2; have L2 := Lib.hid hl2
      clear hB2 hl2 CP x0
      go_wp2_with fail
      go_roundw
      case rel => exact ⟨j + 1, kk, bs ++ n4 z, a2, c2, by omega, rfl, by go_num, k4, L2, Lib.hid HS.out.symm, B2⟩
      case measure => simp [intOf] <;> omega
    · obtain rfl : j = n := by omega
      have HT : zs.take j = zs := by rw [← HL.out]; exact List.take_length
      have FF := Lib.hid (show RBB w w (nsB zs) m (.returned (.slice ba k bc)) wr from ⟨ba, bc, by rw [← HM.out, ← hk4.out], by rw [← HT, ← hbs.out, hk.out, hk4.out, HM.out], by rw [← HT, ← hbs.out]; exact hB.out, hB.out.b⟩)
      clear HT hbs hB hk
      go_wp2_with fail
      go_ret
      exact FF.out
theorem RBB.since {w0 w w' : World} {o : List Nat} {n : Nat} {e : Ending} (h : RBB w w o n e w') (hb : Below w0.heap.size w0 w) : RBB w0 w o n e w' := by
  obtain ⟨a, c, h1, h2, h3, h4⟩ := h
  exact ⟨a, c, h1, h2, ⟨h3.h, h3.n, hb.trans (h3.b.mono hb.size)⟩, h4⟩
theorem putFlag_any (f : Bool) (o : List Nat) (m : Nat) {w0 w : World} {bs : List Nat} {n : Nat} {a : Option Addr} {c : Nat} (h : BB w0 bs a c w) (hn : bs.length = n) (hl : n ≤ 524288) (ho : bs ++ fB f = o) (hm : n + 1 = m) :
    Calls Try.prog 86 #[.slice a n c, .bool f] w (RBB w0 w o m) := by
  have CP := Lib.hid (pput (if f then 1 else 0) 1 1 rfl (by omega) o m h hn hl ho hm)
  clear h hn ho hm
  cases f
  · simp only [Bool.false_eq_true, if_false] at CP
    go_enter Try.func86, Try.ntmps86
    go_wp2_with fail
    with_reducible refine CP.out.mono ?_
    rintro e w' ⟨a2, c2, rfl, hl2, hB2, hW2⟩
    have B2 := Lib.hid hB2; have L2 := Lib.hid hl2; have W2 := Lib.hid hW2
    clear hB2 hl2 CP hW2
    go_wp2_with fail
    go_ret
    exact ⟨a2, c2, rfl, L2.out, B2.out, W2.out⟩
  · simp only [if_true] at CP
    go_enter Try.func86, Try.ntmps86
    go_wp2_with fail
    with_reducible refine CP.out.mono ?_
    rintro e w' ⟨a2, c2, rfl, hl2, hB2, hW2⟩
    have B2 := Lib.hid hB2; have L2 := Lib.hid hl2; have W2 := Lib.hid hW2
    clear hB2 hl2 CP hW2
    go_wp2_with fail
    go_ret
    exact ⟨a2, c2, rfl, L2.out, B2.out, W2.out⟩
theorem pi_carry {w1 w' w'' : World} {p : Nat} {u v : Value} (h : Below w1.heap.size w1 w' ∧ w'.cell? ⟨p, 0, none⟩ = some u ∧ w'.cell? ⟨p, 1, none⟩ = some v) (hb : Below w'.heap.size w' w'') : Below w1.heap.size w1 w'' ∧ w''.cell? ⟨p, 0, none⟩ = some u ∧ w''.cell? ⟨p, 1, none⟩ = some v := vi_carry h hb
theorem BB.rebase {w0 w1 w : World} {bs : List Nat} {a : Option Addr} {c : Nat} (h : BB w1 bs a c w) (hb : Below w0.heap.size w0 w1) : BB w0 bs a c w := ⟨h.h, h.n, hb.trans (h.b.mono hb.size)⟩
set_option maxHeartbeats 1600000 in
theorem putItem_any (k1 : Int) (k2 : Tx) (o : List Nat) (m : Nat) {w0 w : World} {bs : List Nat} {n : Nat} {a : Option Addr} {c : Nat} (h : BB w0 bs a c w) (hn : bs.length = n) (hl : n ≤ 262000) (hs : k2.size ≤ 1100) (ho : bs ++ itB (k1, k2) = o) (hm : n + (3 + k2.size) = m) :
    Calls Try.prog 87 #[.slice a n c, .agg #[.int .i64 k1, .string k2]] w (RBB w0 w o m) := by
  have BX := below_one w (.cells #[.int .i64 k1, .string k2] 27)
  have XB := box2m w (.int .i64 k1) (.string k2) 27
  obtain ⟨w1, hw1⟩ : ∃ w1, w.alloc (.cells #[.int .i64 k1, .string k2] 27) = w1 := ⟨_, rfl⟩
  obtain ⟨p, hp⟩ : ∃ p, w.heap.size = p := ⟨_, rfl⟩
  rw [hw1] at BX XB
  have BXW := Lib.hid BX
  have H1 := Lib.hid (h.more BX)
  have D1 := Lib.hid (h.more (BX.trans ((Below.refl _ _).drew.mono BX.size)))
  rw [hp] at XB
  have O := Lib.hid ho
  have CP := Lib.hid (fun w' (hb : BB w0 bs a c w') => pput k1 1 1 rfl (by omega) (bs ++ n1 k1) (n + 1) hb hn (by omega) rfl rfl)
  have CT := Lib.hid (fun a2 c2 w' (hb : BB w0 (bs ++ n1 k1) a2 c2 w') => ptext k2 o m hb (show (bs ++ n1 k1).length = n + 1 by rw [List.length_append, n1_len, hn]) (by omega) hs (by rw [List.append_assoc]; exact O.out) (by omega))
  have TD := Lib.hid (show Below w1.heap.size w1 w1.drew ∧ w1.drew.cell? ⟨p, 0, none⟩ = some (.int .i64 k1) ∧ w1.drew.cell? ⟨p, 1, none⟩ = some (.string k2) from ⟨(Below.refl _ _).drew, XB.1, XB.2⟩)
  obtain ⟨b0, b1⟩ := XB
  obtain ⟨n', hn'⟩ : ∃ n', n + 1 = n' := ⟨_, rfl⟩
  rw [hn'] at CP CT
  clear h hn ho hm BX hn' b0 b1
  go_enter Try.func87, Try.ntmps87
  go_upto_region 1 with fail
  try rw [hw1]
  try simp only [hp]
  clear hw1 hp
  go_region_held3 (fun w' => Below w1.heap.size w1 w' ∧ w'.cell? ⟨p, 0, none⟩ = some (.int .i64 k1) ∧ w'.cell? ⟨p, 1, none⟩ = some (.string k2))
    (first | assumption | exact TD.out | exact pi_carry (by assumption) (by assumption))
    (first
      | (go_at_call 64; (with_reducible refine (CP.out _ (H1.out.more (And.left (by assumption)))).mono ?_); rintro e w' ⟨a2, c2, rfl, hl2, hB2, hb2⟩)
      | (go_at_call 85; (with_reducible refine (CT.out _ _ _ (by assumption)).mono ?_); rintro e w' ⟨a3, c3, rfl, hl3, hB3, hb3⟩)
      | fail)
  all_goals
    have hS : Below w1.heap.size w1 w' ∧ w'.cell? ⟨p, 0, none⟩ = some (.int .i64 k1) ∧ w'.cell? ⟨p, 1, none⟩ = some (.string k2) := by assumption
    have B3 := Lib.hid hB3; have L3 := Lib.hid hl3; have W3 := Lib.hid (BXW.out.trans (hS.1.mono BXW.out.size))
    clear hB3 hl3 hS hb2 hb3 hB2 hl2
    go_wp2_with fail
    go_ret
    exact ⟨a3, c3, rfl, L3.out, B3.out, W3.out⟩
end Go.Proofs.Ythboiklcjpnhbaa
