/- texts joined -/
import Derived.Test.YtgghbgmeebihbaaPkC
import Derived.Test.YtgghbgmeebihbaaPkA
import Derived.Test.YtgghbgmeebihbaaPkE
import Derived.Test.YtgghbgmeebihbaaChecked
import Derived.WalkLawsBesides
import Derived.WalkSpells
import Derived.Outline
import Derived.Deep.CutBlock
import Derived.Deep.DeepCutAuto
import Derived.Test.YtgghbgmeebihbaaPkD
/- merge: of no merge -/
namespace Go.Proofs.Ytgghbgmeebihbaa
open Go.RowKit
set_option linter.unusedVariables false
set_option maxRecDepth 20000
def MActIn (w : World) (p o : Nat) (x : MAct) : Prop := w.cell? ⟨p, o, none⟩ = some (.bool x.tell) ∧ w.cell? ⟨p, o + 1, none⟩ = some (.bool x.en) ∧ w.cell? ⟨p, o + 2, none⟩ = some (.int .i64 x.shard) ∧ w.cell? ⟨p, o + 3, none⟩ = some (.int .i64 x.seq) ∧ w.cell? ⟨p, o + 4, none⟩ = some (.slice x.ia x.inn x.ic)
theorem MActIn.of {w w' : World} {p o : Nat} {x : MAct} (h : MActIn w p o x) (e : ∀ i, w'.cell? ⟨p, i, none⟩ = w.cell? ⟨p, i, none⟩) : MActIn w' p o x := by
  unfold MActIn at *
  rw [e, e, e, e, e]; exact h
theorem MActIn.below {w w' : World} {p o : Nat} {x : MAct} (h : MActIn w p o x) (hb : Below w.heap.size w w') : MActIn w' p o x := h.of fun i => hb.cell (p := ⟨p, i, none⟩) (lt_of_cell h.1)
theorem mactIn_new (w : World) (x : MAct) (p : Nat) (e : TypeId) (fr : Nat × Nat) (hp : p = w.heap.size) : MActIn (w.alloc (.cells #[.bool x.tell, .bool x.en, .int .i64 x.shard, .int .i64 x.seq, .slice x.ia x.inn x.ic] e fr)) p 0 x := by
  subst hp
  unfold MActIn
  refine ⟨?_, ?_, ?_, ?_, ?_⟩ <;> (rw [World.cell?_alloc_mark]; rfl)
theorem ksize_of {ks : List KV} (h : ∀ k ∈ ks, KeyOk k) : ∀ k ∈ ks, k.2.size ≤ 9223372036854775807 := fun k hk => (h k hk).2
set_option maxHeartbeats 3200000 in
set_option maxRecDepth 100000 in
theorem mergeNone_any (x : MAct) (w : World) (hx : MActOk w x) : Calls Try.prog 6 #[.agg #[.bool x.tell, .bool x.en, .int .i64 x.shard, .int .i64 x.seq, .slice x.ia x.inn x.ic]] w fun e w' => e = .returned (.bool true) ∧ Below w.heap.size w w' := by
  have A0 := Lib.hid (mactIn_new w x w.heap.size 36 (0, 0) rfl)
  have B0 := Lib.hid (below_one w (.cells #[.bool x.tell, .bool x.en, .int .i64 x.shard, .int .i64 x.seq, .slice x.ia x.inn x.ic] 36))
  have CG := Lib.hid (greatK_any x.ia x.inn x.ic x.ks _ (hx.1.below B0.out) hx.2.2.1 (ksize_of hx.2.2.2))
  obtain ⟨g, hg⟩ : ∃ g, greatKB x.ks = g := ⟨_, rfl⟩
  rw [hg] at CG
  clear hx hg
  go_enter Try.func6, Try.ntmps6
  go_wp2_with fail
  refine CG.out.mono ?_
  rintro e w' ⟨rfl, rfl⟩
  clear CG
  cases g
  case true =>
    go_wp2_with fail
    refine (awakeM_any _).mono ?_
    rintro e w' ⟨rfl, hb⟩
    have B1 := Lib.hid (B0.out.trans (hb.mono B0.out.size))
    clear hb
    go_wp2_with fail
    go_ret
    exact ⟨rfl, B1.out⟩
  · go_upto_region 4 with fail
    generalize w.alloc (.cells #[.bool x.tell, .bool x.en, .int .i64 x.shard, .int .i64 x.seq, .slice x.ia x.inn x.ic] 36) = w1 at *
    obtain ⟨x0, x1, x2, x3, x4⟩ := A0.out
    simp only [Nat.zero_add] at x1 x2 x3 x4
    have A1 := Lib.hid (show MActIn w1 w.heap.size 0 x from A0.out)
    clear A0
    go_wp2_with fail
    refine (mafter_none _ _).mono ?_
    rintro e w2 ⟨rfl, hb⟩
    have A2 := Lib.hid (A1.out.below hb)
    have B2 := Lib.hid (B0.out.trans (hb.mono B0.out.size))
    clear hb x0 x1 x2 x3 x4 A1
    go_upto_region 5 with fail
    have A3 := Lib.hid (A2.out.below (below_one w2 (.cells #[.int .i64 0, .string ⟨#[]⟩] 61)))
    have B3 := Lib.hid (B2.out.trans ((below_one w2 (.cells #[.int .i64 0, .string ⟨#[]⟩] 61)).mono B2.out.size))
    have z0 : (w2.alloc (.cells #[.int .i64 0, .string ⟨#[]⟩] 61)).cell? ⟨w2.heap.size, 0, none⟩ = some (.int .i64 0) := by rw [World.cell?_alloc_mark]; rfl
    have z1 : (w2.alloc (.cells #[.int .i64 0, .string ⟨#[]⟩] 61)).cell? ⟨w2.heap.size, 1, none⟩ = some (.string ⟨#[]⟩) := by rw [World.cell?_alloc_mark]; rfl
    clear A2 B2
    generalize w2.alloc (.cells #[.int .i64 0, .string ⟨#[]⟩] 61) = w3 at *
    generalize w2.heap.size = q at *
    obtain ⟨x0, x1, x2, x3, x4⟩ := A3.out
    simp only [Nat.zero_add] at x1 x2 x3 x4
    go_wp2_with fail
    refine (mput_none _ _ _ _ _).mono ?_
    rintro e w' ⟨rfl, rfl⟩
    go_wp2_with fail
    refine (mtell_none _).mono ?_
    rintro e w' ⟨rfl, rfl⟩
    go_wp2_with fail
    refine (mwants_none _).mono ?_
    rintro e w' ⟨rfl, rfl⟩
    go_wp2_with fail
    refine (mseq_none _ _).mono ?_
    rintro e w' ⟨rfl, rfl⟩
    go_wp2_with fail
    refine (mdone_none _).mono ?_
    rintro e w' ⟨rfl, rfl⟩
    go_wp2_with fail
    refine (mtold_none _).mono ?_
    rintro e w' ⟨rfl, rfl⟩
    go_wp2_with fail
    refine (awakeM_any _).mono ?_
    rintro e w7 ⟨rfl, hb⟩
    have B7 := Lib.hid (B3.out.trans (hb.mono B3.out.size))
    clear hb
    go_wp2_with fail
    go_ret
    exact ⟨rfl, B7.out⟩
open Go.ChangeShapes Go.WideShapes Go.ChangeAt in
theorem mergeNone_walk {H : Type} {enc : TypeId × Value → H} (W : World) (base : Nat) (v0 : Value) (d0 : DataW H) (p0 : List MemPlace)
    (h0 : DataW.Trod enc Try.prog W 0 (fun _ => true) true 36 v0 d0 p0) (o0 : Value.okWide Try.prog W .any base 36 v0) :
    Calls Try.prog 6 #[v0] W fun e w' => e = .returned (.bool true) ∧ RowKit.Below W.heap.size W w' := by
  obtain ⟨x, hx, rfl⟩ := open_mact o0 h0
  exact mergeNone_any x W hx
end Go.Proofs.Ytgghbgmeebihbaa
/- two objects of a call's own, in blocks apart -/
namespace Go.Proofs.Ytgghbgmeebihbaa
open Go.RowKit
set_option linter.unusedVariables false
set_option maxRecDepth 20000
/-- an object in its blocks -/
structure ObjOk (Q : World → (Nat → Prop) → Prop) : Prop where
  turn : ∀ {w w' : World} {S F : Nat → Prop}, Q w S → Turn F w w' → (∀ k, S k → ¬ F k) → Q w' S
  lt : ∀ {w : World} {S : Nat → Prop}, Q w S → ∀ k, S k → k < w.heap.size
def PO (Q : World → (Nat → Prop) → Prop) (w : World) (S : Nat → Prop) (w' : World) : Prop := ∃ S', Q w' S' ∧ (∀ k, S' k → S k ∨ w.heap.size ≤ k) ∧ Turn S w w'
theorem PO.turn {Q : World → (Nat → Prop) → Prop} {w w' : World} {S : Nat → Prop} (h : PO Q w S w') : Turn S w w' := by obtain ⟨_, _, _, h⟩ := h; exact h
theorem ObjOk.below {Q : World → (Nat → Prop) → Prop} (o : ObjOk Q) {w w' : World} {S : Nat → Prop} (h : Q w S) (hb : Below w.heap.size w w') : Q w' S :=
  o.turn h (F := fun k => w.heap.size ≤ k) (Turn.of_below hb) (fun k hk hn => by have := o.lt h k hk; omega)
theorem PO.more {Q : World → (Nat → Prop) → Prop} (o : ObjOk Q) {w w' w'' : World} {S : Nat → Prop} (h : PO Q w S w') (hb : Below w'.heap.size w' w'') : PO Q w S w'' := by
  obtain ⟨T, q, s, t⟩ := h
  exact ⟨T, o.below q hb, s, t.trans (Turn.of_below hb)⟩
structure TwoO (Q R : World → (Nat → Prop) → Prop) (w0 w : World) (S1 S2 : Nat → Prop) : Prop where
  q : Q w S1
  r : R w S2
  d : ∀ k, S1 k → ¬ S2 k
  l1 : ∀ k, S1 k → w0.heap.size ≤ k
  l2 : ∀ k, S2 k → w0.heap.size ≤ k
  b : Below w0.heap.size w0 w
def TwoOE (Q R : World → (Nat → Prop) → Prop) (w0 w : World) : Prop := ∃ S1 S2, TwoO Q R w0 w S1 S2
theorem TwoO.more {Q R : World → (Nat → Prop) → Prop} (oq : ObjOk Q) (or : ObjOk R) {w0 w w' : World} {S1 S2 : Nat → Prop} (c : TwoO Q R w0 w S1 S2) (hb : Below w.heap.size w w') : TwoO Q R w0 w' S1 S2 :=
  ⟨oq.below c.q hb, or.below c.r hb, c.d, c.l1, c.l2, c.b.trans (hb.mono c.b.size)⟩
theorem TwoO.left {Q Q' R : World → (Nat → Prop) → Prop} (oq : ObjOk Q') (or : ObjOk R) {w0 w w' : World} {S1 S2 : Nat → Prop} (c : TwoO Q R w0 w S1 S2) (h : PO Q' w S1 w') : ∃ T, TwoO Q' R w0 w' T S2 ∧ (∀ k, T k → S1 k ∨ w.heap.size ≤ k) := by
  obtain ⟨T, q, s, t⟩ := h
  have hz := c.b.size
  refine ⟨T, ⟨q, or.turn c.r t (fun k h2 h1 => c.d k h1 h2), fun k h1 h2 => ?_, fun k hk => ?_, c.l2, c.b.trans (t.below c.l1 hz)⟩, s⟩
  · rcases s k h1 with x | x
    · exact c.d k x h2
    · have := or.lt c.r k h2; omega
  · rcases s k hk with x | x
    · exact c.l1 k x
    · omega
theorem TwoO.left1 {Q Q' R : World → (Nat → Prop) → Prop} (or : ObjOk R) {w0 w w' : World} {S1 S2 T : Nat → Prop} (c : TwoO Q R w0 w S1 S2) (q : Q' w' T) (s : ∀ k, T k → S1 k ∨ w.heap.size ≤ k) (t : Turn S1 w w') : TwoO Q' R w0 w' T S2 := by
  have hz := c.b.size
  refine ⟨q, or.turn c.r t (fun k h2 h1 => c.d k h1 h2), fun k h1 h2 => ?_, fun k hk => ?_, c.l2, c.b.trans (t.below c.l1 hz)⟩
  · rcases s k h1 with x | x
    · exact c.d k x h2
    · have := or.lt c.r k h2; omega
  · rcases s k hk with x | x
    · exact c.l1 k x
    · omega
theorem TwoO.swap {Q R : World → (Nat → Prop) → Prop} {w0 w : World} {S1 S2 : Nat → Prop} (c : TwoO Q R w0 w S1 S2) : TwoO R Q w0 w S2 S1 := ⟨c.r, c.q, fun k h1 h2 => c.d k h2 h1, c.l2, c.l1, c.b⟩
theorem TwoO.right {Q R R' : World → (Nat → Prop) → Prop} (oq : ObjOk Q) (or : ObjOk R') {w0 w w' : World} {S1 S2 : Nat → Prop} (c : TwoO Q R w0 w S1 S2) (h : PO R' w S2 w') : ∃ T, TwoO Q R' w0 w' S1 T ∧ (∀ k, T k → S2 k ∨ w.heap.size ≤ k) := by
  obtain ⟨T, h1, h2⟩ := c.swap.left or oq h
  exact ⟨T, h1.swap, h2⟩
theorem TwoO.right1 {Q R R' : World → (Nat → Prop) → Prop} (oq : ObjOk Q) {w0 w w' : World} {S1 S2 T : Nat → Prop} (c : TwoO Q R w0 w S1 S2) (q : R' w' T) (s : ∀ k, T k → S2 k ∨ w.heap.size ≤ k) (t : Turn S2 w w') : TwoO Q R' w0 w' S1 T := (c.swap.left1 oq q s t).swap
theorem TwoO.q2 {Q Q' R R' : World → (Nat → Prop) → Prop} (oq : ObjOk Q) {w0 w w' : World} {S1 S2 : Nat → Prop} (c : TwoO Q R w0 w S1 S2) (h : PO R' w S2 w') : Q w' S1 := oq.turn c.q h.turn c.d
theorem TwoO.r2 {Q Q' R : World → (Nat → Prop) → Prop} (or : ObjOk R) {w0 w w' : World} {S1 S2 : Nat → Prop} (c : TwoO Q R w0 w S1 S2) (h : PO Q' w S1 w') : R w' S2 := or.turn c.r h.turn (fun k h2 h1 => c.d k h1 h2)
theorem TwoO.qr {Q Q' R R' : World → (Nat → Prop) → Prop} (oq : ObjOk Q') (or : ObjOk R) (or' : ObjOk R') {w0 w w1 w2 : World} {S1 S2 : Nat → Prop} (c : TwoO Q R w0 w S1 S2) (h : PO Q' w S1 w1) (k : PO R' w1 S2 w2) : TwoOE Q' R' w0 w2 := by
  obtain ⟨T, c1, _⟩ := c.left oq or h
  obtain ⟨T2, c2, _⟩ := c1.right oq or' k
  exact ⟨T, T2, c2⟩
theorem TwoO.rq {Q Q' R R' : World → (Nat → Prop) → Prop} (oq : ObjOk Q) (oq' : ObjOk Q') (or' : ObjOk R') {w0 w w1 w2 : World} {S1 S2 : Nat → Prop} (c : TwoO Q R w0 w S1 S2) (h : PO R' w S2 w1) (k : PO Q' w1 S1 w2) : TwoOE Q' R' w0 w2 := by
  obtain ⟨T, c1, _⟩ := c.right oq or' h
  obtain ⟨T2, c2, _⟩ := c1.left oq' or' k
  exact ⟨T2, T, c2⟩
theorem cellT {S : Nat → Prop} {w w' : World} {p o : Nat} {v : Value} (h : w.cell? ⟨p, o, none⟩ = some v) (t : Turn S w w') (hn : ¬ S p) : w'.cell? ⟨p, o, none⟩ = some v := (t.cell (lt_of_cell h) hn).trans h
theorem turn_grown {w w' : World} {r : Option Nat} (h : w.grownBy w' r) : Turn (fun k => some k = r) w w' := ⟨h.os, h.tape, h.output, h.size, fun k hk hn => h.block k hk hn⟩
end Go.Proofs.Ytgghbgmeebihbaa
/- merge: both as objects over what is plain; After; acts -/
namespace Go.Proofs.Ytgghbgmeebihbaa
open Go.RowKit
set_option linter.unusedVariables false
set_option maxRecDepth 20000
def QM (b : Nat) (most : Int) (T : List KV) (P : List SM) (w : World) (S : Nat → Prop) : Prop := ∃ L, MAt w b most T L S ∧ L.map spl = P
def RM (b : Nat) (most : Int) (T : List KV) (P : List SM) (w : World) (S : Nat → Prop) : Prop := ∃ L, RMt w b most T L S ∧ L.map spl = P
theorem qm_ok (b : Nat) (most : Int) (T : List KV) (P : List SM) : ObjOk (QM b most T P) :=
  ⟨fun h t hF => by obtain ⟨L, m, e⟩ := h; exact ⟨L, m.turn t hF, e⟩, fun h => by obtain ⟨L, m, e⟩ := h; exact m.lt⟩
theorem rm_ok (b : Nat) (most : Int) (T : List KV) (P : List SM) : ObjOk (RM b most T P) :=
  ⟨fun h t hF => by obtain ⟨L, m, e⟩ := h; exact ⟨L, m.turn t hF, e⟩, fun h => by obtain ⟨L, m, e⟩ := h; exact m.lt⟩
/-- what is plain of both is within bounds -/
structure Pln (most : Int) (T : List KV) (P : List SM) (j : Nat) : Prop where
  len : P.length ≤ 6
  m1 : 1 ≤ most
  m2 : most ≤ 10
  t : (T.length : Int) ≤ 10
  seq : ∀ x ∈ P, 0 ≤ x.seq ∧ x.seq ≤ j
  fit : FitL P
  ts : ∀ k ∈ T, k.2.size ≤ 1048576
theorem fit_spl {L : List SM} {P : List SM} (e : L.map spl = P) (h : FitL P) : FitL L := fun x hx => h (spl x) (by rw [← e]; exact List.mem_map_of_mem hx)
theorem qput (s q : Int) (ia : Option Addr) (n ic : Nat) (ks : List KV) (en z : Bool) (P' : List SM) (b j : Nat) (most : Int) (T : List KV) (P : List SM) (S : Nat → Prop) (w : World) (h : QM b most T P w S) (hp : Pln most T P j) (hj : j ≤ 1000)
    (hi : HoldsK w ia n ks) (hin : ia = none → n = 0 ∧ ic = 0) (hn : n ≤ 9223372036854775807) (hiS : 0 < n → ∀ fb fo, ia = some ⟨fb, fo, none⟩ → ¬ S fb) (hz : putB most T P s q ks en = z)
    (hP : (if z then P.set s.toNat (putSM (P.getD s.toNat sm0) ks en) else P) = P') :
    Calls Try.prog 15 #[.pointer (some ⟨b, 0, none⟩), .int .i64 s, .int .i64 q, .slice ia n ic, .bool en] w fun e w' => e = .returned (.bool z) ∧ PO (QM b most T P') w S w' := by
  obtain ⟨L, m, e⟩ := h
  have hl := hp.len
  have hsq : ∀ x ∈ P, 0 ≤ x.seq ∧ x.seq ≤ 1000000000 := fun x hx => by have := hp.seq x hx; omega
  subst e hP
  rw [put_spl] at hz
  rw [List.length_map] at hl
  refine (mput_any s q ia n ic ks en z b w m (by omega) hi hin hn hiS (spl_seq rfl hsq) hz).mono fun e w' ⟨e1, h2⟩ => ⟨e1, ?_⟩
  cases z
  · exact ⟨S, ⟨L, m.below h2, rfl⟩, fun k hk => Or.inl hk, Turn.of_below h2⟩
  · obtain ⟨wa, wc, S', m', hs', t'⟩ := h2
    exact ⟨S', ⟨_, m', by rw [putSM_spl]; rfl⟩, hs', t'⟩
theorem rput (s q : Int) (ia : Option Addr) (n ic : Nat) (ks : List KV) (en z : Bool) (P' : List SM) (b j : Nat) (most : Int) (T : List KV) (P : List SM) (S : Nat → Prop) (w : World) (h : RM b most T P w S) (hp : Pln most T P j) (hj : j ≤ 1000)
    (hi : HoldsK w ia n ks) (hin : ia = none → n = 0 ∧ ic = 0) (hn : n ≤ 9223372036854775807) (hks : ∀ k ∈ ks, k.2.size ≤ 1048576) (hz : putB most T P s q ks en = z)
    (hP : (if z then P.set s.toNat (putSM (P.getD s.toNat sm0) ks en) else P) = P') :
    Calls Try.prog 16 #[.pointer (some ⟨b, 0, none⟩), .int .i64 s, .int .i64 q, .slice ia n ic, .bool en] w fun e w' => e = .returned (.bool z) ∧ PO (RM b most T P') w S w' := by
  obtain ⟨L, m, e⟩ := h
  have hl := hp.len
  have hsq : ∀ x ∈ P, 0 ≤ x.seq ∧ x.seq ≤ 1000000000 := fun x hx => by have := hp.seq x hx; omega
  have hfl := fit_spl e hp.fit
  subst e hP
  rw [put_spl] at hz
  rw [List.length_map] at hl
  refine (rmput_any s q ia n ic ks en z b w m (by omega) hi hin hn (spl_seq rfl hsq) (fun x hx => (hfl x hx).1) hks hz).mono fun e w' ⟨e1, h2⟩ => ⟨e1, ?_⟩
  cases z
  · exact ⟨S, ⟨L, m.below h2, rfl⟩, fun k hk => Or.inl hk, Turn.of_below h2⟩
  · obtain ⟨wa, wc, S', m', hs', t'⟩ := h2
    exact ⟨S', ⟨_, m', by rw [putSM_spl]; rfl⟩, hs', t'⟩
/-- a call's answer: a new list of items; the object -/
def TellO (Q : World → (Nat → Prop) → Prop) (w : World) (S : Nat → Prop) (out : List KV) (e : Ending) (w' : World) : Prop :=
  ∃ oa oc, e = .returned (.slice oa out.length oc) ∧ w'.ownsRow w.heap.size 61 2 (.slice oa out.length oc) out.length (keysV out) ∧ ∃ S', Q w' S' ∧ (∀ k, S' k → S k ∨ w.heap.size ≤ k) ∧ Turn S w w' ∧ (∀ g, oa = some ⟨g, 0, none⟩ → ¬ S' g)
theorem qtell (T' : List KV) (P' : List SM) (out : List KV) (b j : Nat) (most : Int) (T : List KV) (P : List SM) (S : Nat → Prop) (w : World) (h : QM b most T P w S) (hp : Pln most T P j) (hR : tellF most 10 T P [] = (T', P', out)) :
    Calls Try.prog 19 #[.pointer (some ⟨b, 0, none⟩)] w (TellO (QM b most T' P') w S out) := by
  obtain ⟨L, m, e⟩ := h
  have hl := hp.len; have hm := hp.m2; have hT := hp.t
  subst e
  rw [List.length_map] at hl
  have := mtell_any 10 b w m (by omega) (by omega) (by omega) (by omega)
  rw [hR] at this
  exact this.mono fun e w' ⟨oa, oc, L', S', e1, t, e2⟩ => ⟨oa, oc, e1, t.o, S', ⟨L', t.m, e2⟩, t.s, t.t, t.a⟩
theorem rtell (T' : List KV) (P' : List SM) (out : List KV) (b j : Nat) (most : Int) (T : List KV) (P : List SM) (S : Nat → Prop) (w : World) (h : RM b most T P w S) (hp : Pln most T P j) (hR : tellF most 10 T P [] = (T', P', out)) :
    Calls Try.prog 21 #[.pointer (some ⟨b, 0, none⟩)] w (TellO (RM b most T' P') w S out) := by
  obtain ⟨L, m, e⟩ := h
  have hl := hp.len; have hm := hp.m2; have hT := hp.t
  have hfl := fit_spl e hp.fit
  subst e
  rw [List.length_map] at hl
  have := rmtell_any 10 b w m (by omega) (by omega) (by omega) (by omega) hfl
  rw [hR] at this
  exact this.mono fun e w' ⟨oa, oc, L', S', e1, t, e2⟩ => ⟨oa, oc, e1, t.o, S', ⟨L', t.m, e2⟩, t.s, t.t, t.a⟩
/-! the last one heard of a shard -/
def lastS (P : List SM) (s : Int) : KV × Bool := if 0 ≤ s ∧ s < (P.length : Int) then ((P.getD s.toNat sm0).last, (P.getD s.toNat sm0).rcv) else (k0, false)
theorem s4_store {w : World} {b g o p : Nat} {v2 v3 v4 v5 u v : Value} (hb : p ≠ b) (hg : p ≠ g) (h : w.cell? ⟨b, 2, none⟩ = some v2 ∧ w.cell? ⟨g, o + 3, none⟩ = some v3 ∧ w.cell? ⟨g, o + 4, none⟩ = some v4 ∧ w.cell? ⟨g, o + 5, none⟩ = some v5) :
    ((w.setCell ⟨p, 0, none⟩ u).setCell ⟨p, 1, none⟩ v).cell? ⟨b, 2, none⟩ = some v2 ∧ ((w.setCell ⟨p, 0, none⟩ u).setCell ⟨p, 1, none⟩ v).cell? ⟨g, o + 3, none⟩ = some v3 ∧ ((w.setCell ⟨p, 0, none⟩ u).setCell ⟨p, 1, none⟩ v).cell? ⟨g, o + 4, none⟩ = some v4 ∧ ((w.setCell ⟨p, 0, none⟩ u).setCell ⟨p, 1, none⟩ v).cell? ⟨g, o + 5, none⟩ = some v5 :=
  ⟨((cset_far hb).trans (cset_far hb)).trans h.1, ((cset_far hg).trans (cset_far hg)).trans h.2.1, ((cset_far hg).trans (cset_far hg)).trans h.2.2.1, ((cset_far hg).trans (cset_far hg)).trans h.2.2.2⟩
set_option maxHeartbeats 1600000 in
theorem mafter_any (s : Int) (y : KV) (z : Bool) (b : Nat) {most : Int} {T : List KV} {L : List SM} {S : Nat → Prop} (w : World) (h : MAt w b most T L S) (hl : L.length ≤ 1000) (hv : lastS L s = (y, z)) :
    Calls Try.prog 36 #[.pointer (some ⟨b, 0, none⟩), .int .i64 s] w fun e w' => e = .returned (.tuple #[.agg #[.int .i64 y.1, .string y.2], .bool z]) ∧ Below w.heap.size w w' := by
  have B1 := Lib.hid (below_one w (.cells #[.int .i64 0, .string ⟨#[]⟩] 61))
  have K1 := Lib.hid (show (w.alloc (.cells #[.int .i64 0, .string ⟨#[]⟩] 61)).cell? ⟨w.heap.size, 0, none⟩ = some (.int .i64 0) ∧ (w.alloc (.cells #[.int .i64 0, .string ⟨#[]⟩] 61)).cell? ⟨w.heap.size, 1, none⟩ = some (.string ⟨#[]⟩) from kvAt_new w k0 w.heap.size 61 rfl)
  have F1 := Lib.hid (show ∀ i, (w.alloc (.cells #[.int .i64 0, .string ⟨#[]⟩] 61)).frozen? ⟨w.heap.size, i, none⟩ = false from fun i => frozen_alloc rfl)
  have H1 := Lib.hid (h.below B1.out)
  obtain ⟨zh, hzh⟩ : ∃ zh, decide (0 ≤ s ∧ s < (L.length : Int)) = zh := ⟨_, rfl⟩
  have CH := Lib.hid (mhas_any s zh b _ H1.out hl hzh)
  unfold lastS at hv
  cases zh
  · have hn : ¬ (0 ≤ s ∧ s < (L.length : Int)) := of_decide_eq_false hzh
    rw [if_neg hn] at hv
    injection hv with hv1 hv2
    subst hv1 hv2
    clear h hzh hn
    go_enter Try.func36, Try.ntmps36
    go_wp2_with fail
    refine CH.out.mono ?_
    rintro e w' ⟨rfl, rfl⟩
    obtain ⟨k1, k2⟩ := K1.out
    have f0 := F1.out 0
    have f1 := F1.out 1
    go_wp2_with fail
    exact bodyPost_ret (v := .tuple #[.agg #[.int .i64 0, .string ⟨#[]⟩], .bool false]) (by simp [results, go_sem]) rfl ⟨rfl, B1.out⟩
  · have hn : 0 ≤ s ∧ s < (L.length : Int) := of_decide_eq_true hzh
    rw [if_pos hn] at hv
    injection hv with hv1 hv2
    subst hv1 hv2
    obtain ⟨i, rfl⟩ : ∃ i : Nat, s = (i : Int) := ⟨s.toNat, by omega⟩
    rw [Int.toNat_natCast]
    obtain ⟨ta, tc, ra, rc, M⟩ := H1.out
    have hil : i < L.length := by omega
    obtain ⟨g, hg⟩ : ∃ g, ra = some ⟨g, 0, none⟩ := by
      obtain ⟨g, cap', hv⟩ := Joins.ownsRow_form M.2.2.2.2.2.1 (by omega)
      simp only [Value.slice.injEq] at hv
      exact ⟨g, hv.1⟩
    subst hg
    obtain ⟨v0, v1, v2, v3, v4, v5, v6⟩ := smV_at L i hil
    obtain ⟨x, hx⟩ : ∃ x, L.getD i sm0 = x := ⟨_, rfl⟩
    rw [hx] at v3 v4 v5 ⊢
    have own := M.2.2.2.2.2.1
    have c3 := (own.cellAt (i * 7 + 3) (by omega)).trans v3
    have c4 := (own.cellAt (i * 7 + 4) (by omega)).trans v4
    have c5 := (own.cellAt (i * 7 + 5) (by omega)).trans v5
    have k2 := M.2.2.1
    have HB := Lib.hid (show b < w.heap.size from h.lt b h.has)
    have HG := Lib.hid (show g < w.heap.size from by
      obtain ⟨ta', tc', ra', rc', M'⟩ := h
      have e := M'.2.2.1
      have e2 := (B1.out.cell (p := ⟨b, 2, none⟩) (lt_of_cell e)).trans e
      rw [k2] at e2
      injection e2 with e2; injection e2 with e2
      exact M'.2.2.2.2.2.2.2.2.2.2 g (M'.2.2.2.2.2.2.2.2.2.1 g e2.symm).1)
    have i1 : (0 : Int) ≤ (i : Int) := by omega
    have i2 : (i : Int) < (L.length : Int) := by omega
    clear h hzh hn M own v0 v1 v2 v3 v4 v5 v6 hx
    go_enter Try.func36, Try.ntmps36
    go_wp2_with fail
    refine CH.out.mono ?_
    rintro e w' ⟨rfl, rfl⟩
    obtain ⟨z1, z2⟩ := K1.out
    have f0 := F1.out 0
    have f1 := F1.out 1
    have hbp : w.heap.size ≠ b := by have := HB.out; omega
    have hgp : w.heap.size ≠ g := by have := HG.out; omega
    go_upto_region 3 with fail
    generalize w.alloc (.cells #[.int .i64 0, .string ⟨#[]⟩] 61) = w1 at *
    obtain ⟨p, hpw⟩ : ∃ p, w.heap.size = p := ⟨_, rfl⟩
    have HPW := Lib.hid hpw
    rw [hpw] at z1 z2 f0 f1 hbp hgp
    rw [hpw]
    clear hpw
    go_region_held3 (fun w' => w'.cell? ⟨b, 2, none⟩ = some (.slice (some ⟨g, 0, none⟩) L.length rc) ∧ w'.cell? ⟨g, i * 7 + 3, none⟩ = some (.bool x.rcv) ∧ w'.cell? ⟨g, i * 7 + 4, none⟩ = some (.int .i64 x.last.1) ∧ w'.cell? ⟨g, i * 7 + 5, none⟩ = some (.string x.last.2))
      (first | assumption | exact ⟨k2, c3, c4, c5⟩ | exact s4_store hbp hgp ⟨k2, c3, c4, c5⟩)
      (fail)
    all_goals
      have Z1 := Lib.hid (show ((w1.setCell ⟨p, 0, none⟩ (.int .i64 x.last.1)).setCell ⟨p, 1, none⟩ (.string x.last.2)).cell? ⟨p, 0, none⟩ = some (.int .i64 x.last.1) from (cset_ne (by omega)).trans (cset_at z1))
      have Z2 := Lib.hid (show ((w1.setCell ⟨p, 0, none⟩ (.int .i64 x.last.1)).setCell ⟨p, 1, none⟩ (.string x.last.2)).cell? ⟨p, 1, none⟩ = some (.string x.last.2) from cset_at ((cset_ne (by omega)).trans z2))
      have BE := Lib.hid (show Below w.heap.size w ((w1.setCell ⟨p, 0, none⟩ (.int .i64 x.last.1)).setCell ⟨p, 1, none⟩ (.string x.last.2)) from (B1.out.setCell (p := ⟨p, 0, none⟩) (Nat.le_of_eq HPW.out) _).setCell (p := ⟨p, 1, none⟩) (Nat.le_of_eq HPW.out) _)
      clear c3 c4 c5 k2 f0 f1 z1 z2
      generalize (w1.setCell ⟨p, 0, none⟩ (.int .i64 x.last.1)).setCell ⟨p, 1, none⟩ (.string x.last.2) = w3 at *
      have y1 := Z1.out
      have y2 := Z2.out
      go_wp2_with fail
      exact bodyPost_ret (v := .tuple #[.agg #[.int .i64 x.last.1, .string x.last.2], .bool x.rcv]) (by simp [results, go_sem, y1, y2]) rfl ⟨rfl, BE.out.drew⟩
end Go.Proofs.Ytgghbgmeebihbaa
/- Slices of bytes as lists of natural numbers. -/
namespace Go.Proofs.Ytgghbgmeebihbaa
open Go.ChangeShapes Go.WideShapes Go.ChangeAt Go.RowKit
set_option linter.unusedVariables false
set_option maxRecDepth 20000
/-- The slice at a of n bytes holds the bytes bs. -/
def HoldsB (w : World) (a : Option Addr) (n : Nat) (bs : List Nat) : Prop := HoldsI .u8 w a n (bs.map fun b : Nat => (b : Int)) ∧ ∀ b ∈ bs, b < 256
theorem HoldsB.len {w : World} {a : Option Addr} {n : Nat} {bs : List Nat} (h : HoldsB w a n bs) : bs.length = n := by simpa using h.1.1
theorem getD_map_cast (bs : List Nat) (i : Nat) : (bs.map fun b : Nat => (b : Int)).getD i 0 = ((bs.getD i 0 : Nat) : Int) := by
  simp only [List.getD_eq_getElem?_getD, List.getElem?_map]
  cases bs[i]? <;> rfl
theorem HoldsB.at {w : World} {a : Option Addr} {n : Nat} {bs : List Nat} (h : HoldsB w a n bs) (h0 : 0 < n) : ∃ b o, a = some ⟨b, o, none⟩ ∧ ∀ i, i < n → w.cell? ⟨b, o + i, none⟩ = some (.int .u8 ((bs.getD i 0 : Nat) : Int)) := by
  obtain ⟨b, o, ha, hc⟩ := h.1.2 h0
  exact ⟨b, o, ha, fun i hi => by rw [hc i hi, getD_map_cast]⟩
theorem HoldsB.below {w w' : World} {a : Option Addr} {n : Nat} {bs : List Nat} (h : HoldsB w a n bs) (hb : Below w.heap.size w w') : HoldsB w' a n bs := ⟨h.1.below hb, h.2⟩
theorem HoldsB.part {w : World} {b o n : Nat} {bs : List Nat} (h : HoldsB w (some ⟨b, o, none⟩) n bs) (i j : Nat) (hij : i ≤ j) (hj : j ≤ n) (m : Nat) (hm : m = j - i) : HoldsB w (some ⟨b, o + i, none⟩) m ((bs.take j).drop i) := by
  refine ⟨?_, fun x hx => h.2 x (List.mem_of_mem_take (List.mem_of_mem_drop hx))⟩
  rw [List.map_drop, List.map_take]
  exact h.1.part i j hij hj m hm
theorem HoldsB.front {w : World} {b o n : Nat} {bs : List Nat} (h : HoldsB w (some ⟨b, o, none⟩) n bs) (j : Nat) (hj : j ≤ n) : HoldsB w (some ⟨b, o, none⟩) j (bs.take j) := by
  have := h.part 0 j (by omega) hj j (by omega)
  simpa using this
theorem getD_lt {bs : List Nat} (h : ∀ b ∈ bs, b < 256) (i : Nat) : bs.getD i 0 < 256 := by
  rw [List.getD_eq_getElem?_getD]
  cases e : bs[i]? with
  | none => simp
  | some x => exact h x (List.mem_of_getElem? e)

/-- the bytes as values -/
def bytesV (bs : List Nat) : List Value := (bs.map fun b : Nat => (b : Int)).map (Value.int .u8)
theorem bytesV_length (bs : List Nat) : (bytesV bs).length = bs.length := by simp [bytesV]
theorem HoldsB.values {w : World} {a : Option Addr} {n : Nat} {bs : List Nat} (h : HoldsB w a n bs) : HoldsV w a n (bytesV bs) := h.1.values
theorem bytesV_one (bs : List Nat) : ∀ u ∈ bytesV bs, u.oneCell' = true := ints_oneCell _ _
theorem roomy_bytes {w : World} {B : Nat} {e : TypeId} {mark : Value} {n k : Nat} {bs : List Nat} (hl : bs.length = n) (hb : ∀ b ∈ bs, b < 256) (h : Roomy w B e mark n (bytesV bs) k) : HoldsB w (some ⟨B, 0, none⟩) n bs :=
  ⟨⟨by simpa using hl, fun _ => ⟨B, 0, rfl, fun i hi => by rw [Nat.zero_add, h.cell i hi, bytesV, getD_map_int .u8 _ i (by simp [hl]; exact hi)]⟩⟩, hb⟩
theorem bytesV_append (a b : List Nat) : bytesV a ++ bytesV b = bytesV (a ++ b) := by simp [bytesV]
theorem holdsB_of_values {w : World} {a : Option Addr} {n : Nat} {bs : List Nat} (h : HoldsV w a n (bytesV bs)) (hb : ∀ b ∈ bs, b < 256) : HoldsB w a n bs := by
  have hl : bs.length = n := by have := h.1; simpa [bytesV] using this
  refine ⟨⟨by simpa using hl, fun h0 => ?_⟩, hb⟩
  obtain ⟨b, o, ha, hc⟩ := h.2 h0
  exact ⟨b, o, ha, fun i hi => by rw [hc i hi, bytesV, getD_map_int .u8 _ i (by simp [hl]; exact hi)]⟩
theorem holdsB_lit (w : World) (bs : List Nat) (e : TypeId) (fr : Nat × Nat) (h : ∀ b ∈ bs, b < 256) : HoldsB (w.alloc (.cells (bs.map fun b : Nat => Value.int .u8 (b : Int)).toArray e fr)) (some ⟨w.heap.size, 0, none⟩) bs.length bs := by
  refine ⟨⟨by simp, fun _ => ⟨_, _, rfl, fun i hi => ?_⟩⟩, h⟩
  rw [World.cell?_alloc_mark, getD_map_cast, Nat.zero_add]
  simp [List.getD_eq_getElem?_getD, hi]
theorem holdsB_nil (w : World) (a : Option Addr) : HoldsB w a 0 [] := ⟨⟨rfl, fun h => absurd h (by decide)⟩, by simp⟩
/-- A slice of bytes that the call made: what it returns, and what became of the world. EB: the number of the type of its elements. -/
def RetB (EB : TypeId) (w : World) (bs : List Nat) (e : Ending) (w' : World) : Prop :=
  ∃ a c, e = .returned (.slice a bs.length c) ∧ w'.ownsRow w.heap.size EB 1 (.slice a bs.length c) bs.length (bytesV bs) ∧ Below w.heap.size w w' ∧ (a = none → bs.length = 0 ∧ c = 0)
end Go.Proofs.Ytgghbgmeebihbaa
/- what was answered is written over, and beyond (OverInts): nothing else is written -/
namespace Go.Proofs.Ytgghbgmeebihbaa
open Go.RowKit
set_option linter.unusedVariables false
set_option maxRecDepth 20000
theorem overInts_info : (Try.prog.info? 3).map (fun i => (i.zero, i.size, i.bytes)) = some (some (.int .i64 0), 1, 8) := by kernel_rfl
set_option maxHeartbeats 400000 in
/-- Written over is a slice of the call's own (its blocks lie from B on): below B nothing turns. -/
theorem overInts_any (B : Nat) (a : Option Addr) (n cap : Nat) (xs : List Value) (w : World) (h : w.ownsRow B 3 1 (.slice a n cap) n xs) (hB : B ≤ w.heap.size) (hn : n ≤ 1048576) :
    Calls Try.prog 50 #[.slice a n cap] w fun e w' => e = .returned (.tuple #[]) ∧ Below B w w' := by
  obtain ⟨i0, hi, hz0, hz1, hz2⟩ := info_parts overInts_info
  have H := Lib.hid h
  clear h
  go_enter Try.func50, Try.ntmps50
  go_wp2_with fail
  go_loopw [2] (fun i wr => ∃ (k : Nat) (ys : List Value), k ≤ n ∧ i = .int .i64 k ∧ Hid (wr.ownsRow B 3 1 (.slice a n cap) n ys) ∧ Hid (Below B w wr)) (fun i _ => n - (intOf i).toNat)
  case atStart => exact ⟨0, xs, by omega, rfl, H, Below.refl _ _⟩
  case round =>
    obtain ⟨k, ys, hk, rfl, hO, hBw⟩ := hrel
    by_cases hlt : k < n
    · obtain ⟨g, rfl⟩ : ∃ g, a = some ⟨g, 0, none⟩ := by
        obtain ⟨g, cap', hv⟩ := Joins.ownsRow_form hO.out (by omega)
        simp only [Value.slice.injEq] at hv
        exact ⟨g, hv.1⟩
      have hc := hO.out.cellAt k (by omega)
      have hyl : k < ys.length := by have := hO.out.1; omega
      rw [List.getElem?_eq_getElem hyl] at hc
      obtain ⟨y, hy⟩ : ∃ y, ys[k] = y := ⟨_, rfl⟩
      rw [hy] at hc
      clear hy hyl
      have hf := hO.out.frozenAt k
      go_wp2
      go_roundw
      case rel => exact ⟨k + 1, _, by omega, by go_num, Lib.hid (hO.out.stored k _).1, Lib.hid (hBw.out.setCell (p := ⟨g, k, none⟩) (hO.out.lt g rfl).1 _)⟩
      case measure => simp [intOf]; omega
    · have hs := hBw.out.size
      go_wp2_with (at_builtin; refine wpList_append_any rfl (.tmp 12) (.tmp 13) 22 rfl B 3 i0 (.int .i64 0) 1 8 Try.underlying22 hi hz0 hz1 hz2 rfl (by decide) _ n _ rfl (hO.out.alloc _) _ 1 1 _ rfl (some_none _) rfl (one_new _ _ _ _) (one_int _ _) (by unfold maxLen; omega) (by omega) (by simp; omega) ?_; intro a3 c3 w3 hown3 hb3 hnil3)
      go_end0
      exact ⟨rfl, hBw.out.trans (((Below.refl _ _).alloc (by omega) _).trans hb3)⟩
end Go.Proofs.Ytgghbgmeebihbaa
/- merge: the acts; how great they are; both tell the same -/
namespace Go.Proofs.Ytgghbgmeebihbaa
open Go.RowKit
set_option linter.unusedVariables false
set_option maxRecDepth 20000
def HoldsMA (w : World) (a : Option Addr) (n : Nat) (xs : Nat → MAct) : Prop := 0 < n → ∃ b o, a = some ⟨b, o, none⟩ ∧ ∀ i, i < n → MActIn w b (o + i * 5) (xs i)
theorem HoldsMA.below {w w' : World} {a : Option Addr} {n : Nat} {xs : Nat → MAct} (h : HoldsMA w a n xs) (hb : Below w.heap.size w w') : HoldsMA w' a n xs := fun h0 => by
  obtain ⟨b, o, ha, hc⟩ := h h0
  exact ⟨b, o, ha, fun i hi => (hc i hi).below hb⟩
theorem MActOk.below {w w' : World} {x : MAct} (h : MActOk w x) (hb : Below w.heap.size w w') : MActOk w' x := ⟨h.1.below hb, h.2⟩
def GreatM (n : Nat) (xs : Nat → MAct) (w : World) (e : Ending) (w' : World) : Prop := ∃ z, e = .returned (.bool z) ∧ w = w' ∧ (z = false → n ≤ 60 ∧ ∀ i, i < n → greatKB (xs i).ks = false)
set_option maxHeartbeats 1600000 in
theorem greatM_any (a : Option Addr) (n cap : Nat) (xs : Nat → MAct) (w : World) (h : HoldsMA w a n xs) (hn : n ≤ 9223372036854775807) (hok : ∀ i, i < n → MActOk w (xs i)) : Calls Try.prog 9 #[.slice a n cap, .int .i64 60] w (GreatM n xs w) := by
  have H := Lib.hid h; have OK := Lib.hid hok
  clear h hok
  by_cases h60 : n ≤ 60
  · have d1 : decide ((n : Int) ≤ 60) = true := decide_eq_true (by omega)
    have d1' : decide (n ≤ 60) = true := decide_eq_true h60
    have d2 : decide ((n : Int) > 60) = false := by simp; omega
    have d3 : decide (60 < n) = false := by simp; omega
    go_enter Try.func9, Try.ntmps9
    go_wp2_with fail
    go_loop [5] (fun iv => ∃ i : Nat, i ≤ n ∧ iv = .int .i64 i ∧ Hid (∀ k, k < i → greatKB (xs k).ks = false)) (fun iv => n - (intOf iv).toNat)
    case atStart => exact ⟨0, by omega, rfl, Lib.hid (fun k hk => by omega)⟩
    case round =>
      obtain ⟨i, hi, rfl, hA⟩ := hrel
      by_cases hlt : i < n
      · obtain ⟨b, o, rfl, hc⟩ := H.out (by omega)
        have ha := hc i hlt
        have hx := OK.out i hlt
        obtain ⟨x, hxx⟩ : ∃ x, xs i = x := ⟨_, rfl⟩
        rw [hxx] at ha hx
        obtain ⟨-, -, -, -, a4⟩ := ha
        obtain ⟨g, hg⟩ : ∃ g, greatKB x.ks = g := ⟨_, rfl⟩
        have CG := Lib.hid (greatK_any x.ia x.inn x.ic x.ks w hx.1 hx.2.2.1 (ksize_of hx.2.2.2))
        rw [hg] at CG
        have HXX := Lib.hid hxx; have HG := Lib.hid hg
        have i1 : (0 : Int) ≤ (i : Int) := by omega
        have i2 : (i : Int) < (n : Int) := by omega
        clear hc hxx hx hg
        go_wp2_with fail
        refine CG.out.mono ?_
        rintro e w' ⟨rfl, rfl⟩
        cases g
        · have HA := Lib.hid (show ∀ k, k < i + 1 → greatKB (xs k).ks = false from fun k hk => by
            by_cases e : k = i
            · subst e; rw [HXX.out]; exact HG.out
            · exact hA.out k (by omega))
          go_wp2_with fail
          go_round
          case rel => exact ⟨i + 1, by omega, by go_num, HA⟩
          case measure => simp [intOf]; omega
        · go_wp2_with fail
          go_ret
          exact ⟨true, rfl, rfl, fun h => by cases h⟩
      · obtain rfl : i = n := by omega
        go_wp2_with fail
        go_ret
        exact ⟨_, rfl, rfl, fun _ => ⟨h60, hA.out⟩⟩
  · have d1 : decide ((n : Int) ≤ 60) = false := decide_eq_false (by omega)
    have d1' : decide (n ≤ 60) = false := decide_eq_false h60
    have d2 : decide ((n : Int) > 60) = true := by simp; omega
    have d3 : decide (60 < n) = true := by simp; omega
    go_enter Try.func9, Try.ntmps9
    go_wp2_with fail
    go_loop [5] (fun iv => iv = .int .i64 ((0 : Nat) : Int)) (fun _ => 0)
    case atStart => exact rfl
    case round =>
      obtain rfl := hrel
      have hn0 : (0 : Int) < (n : Int) := by omega
      have hn0' : 0 < n := by omega
      go_wp2_with fail
      go_ret
      exact ⟨true, rfl, rfl, fun h => by cases h⟩
theorem item_alike (x : KV) (w : World) : (Op.equalIn 10000 61 (.agg #[.int .i64 x.1, .string x.2]) (.agg #[.int .i64 x.1, .string x.2])).run Try.prog w = .ok true w := by
  have f1 : (x.2.toList == x.2.toList) = true := by simp
  go_simp
theorem lastS_spl (L : List SM) (s : Int) : lastS (L.map spl) s = lastS L s := by
  unfold lastS
  rw [List.length_map, getD_spl]
  rfl
theorem qafter (s : Int) (y : KV) (z : Bool) (b : Nat) (most : Int) (T : List KV) (P : List SM) (S : Nat → Prop) (w : World) (h : QM b most T P w S) (hl : P.length ≤ 6) (hv : lastS P s = (y, z)) :
    Calls Try.prog 36 #[.pointer (some ⟨b, 0, none⟩), .int .i64 s] w fun e w' => e = .returned (.tuple #[.agg #[.int .i64 y.1, .string y.2], .bool z]) ∧ Below w.heap.size w w' := by
  obtain ⟨L, m, e⟩ := h
  subst e
  rw [List.length_map] at hl
  rw [lastS_spl] at hv
  exact mafter_any s y z b w m (by omega) hv
theorem qtold (b : Nat) (most : Int) (T : List KV) (P : List SM) (S : Nat → Prop) (w : World) (h : QM b most T P w S) (hl : T.length ≤ 50000) : Calls Try.prog 32 #[.pointer (some ⟨b, 0, none⟩)] w (RetI w T) := by
  obtain ⟨L, m, e⟩ := h
  exact mtold_any b w m hl
theorem qwants (b : Nat) (zs : List Int) (most : Int) (T : List KV) (P : List SM) (S : Nat → Prop) (w : World) (h : QM b most T P w S) (hl : P.length ≤ 6) (hz : natsZ (wantsL most T P) = zs) : Calls Try.prog 29 #[.pointer (some ⟨b, 0, none⟩)] w (RetZ w zs) := by
  obtain ⟨L, m, e⟩ := h
  subst e hz
  rw [List.length_map] at hl
  rw [wants_spl]
  exact mwants_any b w m (by omega)
theorem rwants (b : Nat) (zs : List Int) (most : Int) (T : List KV) (P : List SM) (S : Nat → Prop) (w : World) (h : RM b most T P w S) (hl : P.length ≤ 6) (hz : natsZ (wantsL most T P) = zs) : Calls Try.prog 43 #[.pointer (some ⟨b, 0, none⟩)] w (RetZ w zs) := by
  obtain ⟨L, m, e⟩ := h
  subst e hz
  rw [List.length_map] at hl
  rw [wants_spl]
  exact rmwants_any b w m (by omega)
theorem qdone (b : Nat) (z : Bool) (most : Int) (T : List KV) (P : List SM) (S : Nat → Prop) (w : World) (h : QM b most T P w S) (hl : P.length ≤ 6) (hz : doneB most T P = z) : Calls Try.prog 31 #[.pointer (some ⟨b, 0, none⟩)] w fun e w' => e = .returned (.bool z) ∧ Below w.heap.size w w' := by
  obtain ⟨L, m, e⟩ := h
  subst e
  rw [List.length_map] at hl
  rw [done_spl] at hz
  exact mdone_any z b w m (by omega) hz
theorem rdone (b : Nat) (z : Bool) (most : Int) (T : List KV) (P : List SM) (S : Nat → Prop) (w : World) (h : RM b most T P w S) (hl : P.length ≤ 6) (hz : doneB most T P = z) : Calls Try.prog 48 #[.pointer (some ⟨b, 0, none⟩)] w fun e w' => e = .returned (.bool z) ∧ Below w.heap.size w w' := by
  obtain ⟨L, m, e⟩ := h
  subst e
  rw [List.length_map] at hl
  rw [done_spl] at hz
  exact rmdone_any z b w m (by omega) hz
theorem qseq (s v : Int) (b : Nat) (most : Int) (T : List KV) (P : List SM) (S : Nat → Prop) (w : World) (h : QM b most T P w S) (hl : P.length ≤ 6) (hv : seqS P s = v) : Calls Try.prog 30 #[.pointer (some ⟨b, 0, none⟩), .int .i64 s] w fun e w' => e = .returned (.int .i64 v) ∧ w = w' := by
  obtain ⟨L, m, e⟩ := h
  subst e
  rw [List.length_map] at hl
  rw [seq_spl] at hv
  exact mseq_any s v b w m (by omega) hv
theorem s5_store {w : World} {b g o p : Nat} {v1 v2 v3 v4 v5 u v : Value} (hb : p ≠ b) (hg : p ≠ g) (h : w.cell? ⟨b, 0, none⟩ = some v2 ∧ w.cell? ⟨g, o + 1, none⟩ = some v1 ∧ w.cell? ⟨g, o + 3, none⟩ = some v3 ∧ w.cell? ⟨g, o + 4, none⟩ = some v4 ∧ w.cell? ⟨g, o + 5, none⟩ = some v5) :
    ((w.setCell ⟨p, 0, none⟩ u).setCell ⟨p, 1, none⟩ v).cell? ⟨b, 0, none⟩ = some v2 ∧ ((w.setCell ⟨p, 0, none⟩ u).setCell ⟨p, 1, none⟩ v).cell? ⟨g, o + 1, none⟩ = some v1 ∧ ((w.setCell ⟨p, 0, none⟩ u).setCell ⟨p, 1, none⟩ v).cell? ⟨g, o + 3, none⟩ = some v3 ∧ ((w.setCell ⟨p, 0, none⟩ u).setCell ⟨p, 1, none⟩ v).cell? ⟨g, o + 4, none⟩ = some v4 ∧ ((w.setCell ⟨p, 0, none⟩ u).setCell ⟨p, 1, none⟩ v).cell? ⟨g, o + 5, none⟩ = some v5 :=
  ⟨((cset_far hb).trans (cset_far hb)).trans h.1, ((cset_far hg).trans (cset_far hg)).trans h.2.1, ((cset_far hg).trans (cset_far hg)).trans h.2.2.1, ((cset_far hg).trans (cset_far hg)).trans h.2.2.2.1, ((cset_far hg).trans (cset_far hg)).trans h.2.2.2.2⟩
/-- what the two boxes hold -/
def Two2 (w : World) (q p : Nat) (y : KV) : Prop := KvAt w q y ∧ KvAt w p y
theorem Two2.below {w w' : World} {q p : Nat} {y : KV} (h : Two2 w q p y) (hb : Below w.heap.size w w') : Two2 w' q p y := ⟨h.1.below hb, h.2.below hb⟩
set_option maxHeartbeats 6400000 in
set_option maxRecDepth 100000 in
theorem sameM_any (s : Int) (b c j : Nat) (most : Int) (T : List KV) (P : List SM) (S1 S2 : Nat → Prop) (w : World) (hq : QM b most T P w S1) (hr : RM c most T P w S2) (hp : Pln most T P j) :
    Calls Try.prog 22 #[.pointer (some ⟨b, 0, none⟩), .pointer (some ⟨c, 0, none⟩), .int .i64 s] w fun e w' => e = .returned (.bool true) ∧ Below w.heap.size w w' := by
  have HQ := Lib.hid hq; have HR := Lib.hid hr
  have hl := hp.len
  have ht := hp.t
  have htz : T.length ≤ 10 := by omega
  obtain ⟨⟨y, z⟩, hyz⟩ : ∃ r, lastS P s = r := ⟨_, rfl⟩
  obtain ⟨v, hv⟩ : ∃ v, seqS P s = v := ⟨_, rfl⟩
  obtain ⟨zd, hzd⟩ : ∃ z, doneB most T P = z := ⟨_, rfl⟩
  obtain ⟨zs, hzs⟩ : ∃ z, natsZ (wantsL most T P) = z := ⟨_, rfl⟩
  have QW := Lib.hid (fun w' (hb : Below w.heap.size w w') => (qm_ok b most T P).below HQ.out hb)
  have RW := Lib.hid (fun w' (hb : Below w.heap.size w w') => (rm_ok c most T P).below HR.out hb)
  have ZL : zs.length ≤ 6 := by
    rw [← hzs, natsZ_len]
    unfold wantsL; split
    · simp
    · unfold wantN
      have h1 := List.length_filter_le (fun i => prW (P.getD i sm0)) (List.range P.length)
      rw [List.length_range] at h1; omega
  have CA := Lib.hid (qafter s y z b most T P S1 w hq hl hyz)
  have PL := Lib.hid hp
  have HYZ := Lib.hid hyz; have HV := Lib.hid hv; have HZD := Lib.hid hzd; have HZS := Lib.hid hzs
  clear hq hr hyz hv hzd hzs hp
  go_enter Try.func22, Try.ntmps22
  go_wp2_with fail
  refine CA.out.mono ?_
  rintro e w1 ⟨rfl, hb1⟩
  have A1 := Lib.hid (kvAt_new w1 y w1.heap.size 61 rfl)
  have B1 := Lib.hid hb1
  clear hb1 CA
  go_upto_region 2 with fail
  have B2 := Lib.hid (B1.out.trans ((below_one w1 (.cells #[.int .i64 y.1, .string y.2] 61)).mono B1.out.size))
  generalize w1.alloc (.cells #[.int .i64 y.1, .string y.2] 61) = w2 at *
  generalize w1.heap.size = q at *
  go_upto_region 3 with fail
  have K3 := Lib.hid (kvAt_new w2 k0 w2.heap.size 61 rfl)
  have F3 := Lib.hid (show ∀ i, (w2.alloc (.cells #[.int .i64 0, .string ⟨#[]⟩] 61)).frozen? ⟨w2.heap.size, i, none⟩ = false from fun i => frozen_alloc rfl)
  have A3 := Lib.hid (A1.out.below (below_one w2 (.cells #[.int .i64 0, .string ⟨#[]⟩] 61)))
  have B3 := Lib.hid (B2.out.trans ((below_one w2 (.cells #[.int .i64 0, .string ⟨#[]⟩] 61)).mono B2.out.size))
  have K3 := Lib.hid (show (w2.alloc (.cells #[.int .i64 0, .string ⟨#[]⟩] 61)).cell? ⟨w2.heap.size, 0, none⟩ = some (.int .i64 0) ∧ (w2.alloc (.cells #[.int .i64 0, .string ⟨#[]⟩] 61)).cell? ⟨w2.heap.size, 1, none⟩ = some (.string ⟨#[]⟩) from K3.out)
  have PG := Lib.hid (show w.heap.size ≤ w2.heap.size from B2.out.size)
  have QP := Lib.hid (show q < w2.heap.size from lt_of_cell A1.out.1)
  clear B1 A1
  generalize w2.alloc (.cells #[.int .i64 0, .string ⟨#[]⟩] 61) = w3 at *
  generalize w2.heap.size = p at *
  clear B2
  have Q3 := Lib.hid (QW.out _ B3.out)
  have R3 := Lib.hid (RW.out _ B3.out)
  go_upto_region 4 with fail
  have LEN : ∀ {L : List SM}, L.map spl = P → L.length = P.length := fun e => by rw [← e, List.length_map]
  obtain ⟨L, rm, rmE⟩ := R3.out
  have hLP := LEN rmE
  have RME := Lib.hid rmE
  clear LEN rmE
  obtain ⟨ta, tc, ra, rc, M⟩ := rm
  have MM := Lib.hid M
  have k0' := M.2.2.1
  have hLn : L.length ≤ 6 := by omega
  clear M
  have CB := Lib.hid (show c < w.heap.size ∧ ∀ g, ra = some ⟨g, 0, none⟩ → g < w.heap.size from by
    obtain ⟨L', rm', _⟩ := HR.out
    obtain ⟨ta', tc', ra', rc', M'⟩ := rm'
    have e := M'.2.2.1
    refine ⟨lt_of_cell e, fun g hg => ?_⟩
    have e2 := (B3.out.cell (p := ⟨c, 0, none⟩) (lt_of_cell e)).trans e
    rw [MM.out.2.2.1] at e2
    injection e2 with e2; injection e2 with e2
    exact M'.2.2.2.2.2.2.2.2.2.2 g (M'.2.2.2.2.2.2.2.2.2.1 g (by rw [← e2]; exact hg)).1)
  obtain ⟨zr, hzr⟩ : ∃ zr, decide (0 ≤ s ∧ s < (P.length : Int)) = zr := ⟨_, rfl⟩
  have HZR := Lib.hid hzr
  clear hzr
  go_cut [31] (fun u wc => u = .bool zr ∧ w3 = wc)
  case first =>
    by_cases hs0 : 0 ≤ s
    · have d1 : decide (s ≥ 0) = true := decide_eq_true hs0
      have d2 : decide (s < (L.length : Int)) = zr := by
        rw [← HZR.out, ← hLP, Bool.eq_iff_iff]
        simp [hs0]
      clear hLP hs0
      go_wp2_with fail
      go_meet
      exact ⟨rfl, rfl⟩
    · have d1 : decide (s ≥ 0) = false := decide_eq_false hs0
      have d2 : zr = false := by
        rw [← HZR.out]; exact decide_eq_false (fun h => hs0 h.1)
      subst d2
      clear hLP hs0
      go_wp2_with fail
      go_meet
      exact ⟨rfl, rfl⟩
  case rest =>
    obtain ⟨rfl, rfl⟩ := hcut
    go_upto_if 31 with fail
    go_cut [10, 11] (fun u1 u2 wc => u1 = .int .i64 v ∧ u2 = .bool z ∧ Hid (Two2 wc q p y ∧ Below w.heap.size w wc))
    case first =>
      cases zr
      · have hn : ¬ (0 ≤ s ∧ s < (P.length : Int)) := of_decide_eq_false HZR.out
        have h1 := HYZ.out
        have h2 := HV.out
        unfold lastS at h1
        unfold seqS at h2
        rw [if_neg hn] at h1 h2
        injection h1 with e1 e2
        subst e1 e2 h2
        have KK := Lib.hid (show Two2 w3 q p k0 from ⟨A3.out, K3.out⟩)
        clear hn
        go_wp2_with fail
        go_meet
        exact ⟨rfl, rfl, Lib.hid ⟨KK.out, B3.out⟩⟩
      · have hn : 0 ≤ s ∧ s < (P.length : Int) := of_decide_eq_true HZR.out
        obtain ⟨i, rfl⟩ : ∃ i : Nat, s = (i : Int) := ⟨s.toNat, by omega⟩
        have hil : i < L.length := by omega
        have h1 := HYZ.out
        have h2 := HV.out
        rw [← RME.out, lastS_spl] at h1
        rw [← RME.out, seq_spl] at h2
        unfold lastS at h1
        unfold seqS at h2
        rw [if_pos (by omega), Int.toNat_natCast] at h1 h2
        injection h1 with e1 e2
        obtain ⟨g, rfl, hx7⟩ := MM.out.at hil
        obtain ⟨x, hx⟩ : ∃ x, L.getD i sm0 = x := ⟨_, rfl⟩
        rw [hx] at e1 e2 h2 hx7
        subst e1 e2 h2
        obtain ⟨-, c1, -, c3, c4, c5, -⟩ := hx7
        have hcp : p ≠ c := by have := CB.out.1; have := PG.out; omega
        have hgp : p ≠ g := by have := CB.out.2 g rfl; have := PG.out; omega
        have i1 : (0 : Int) ≤ (i : Int) := by omega
        have i2 : (i : Int) < (L.length : Int) := by omega
        obtain ⟨z1, z2⟩ := K3.out
        have f0 := F3.out 0
        have f1 := F3.out 1
        clear hn hx hLP
        go_wp2_with fail
        go_region_held3 (fun w' => w'.cell? ⟨c, 0, none⟩ = some (.slice (some ⟨g, 0, none⟩) L.length rc) ∧ w'.cell? ⟨g, i * 7 + 1, none⟩ = some (.int .i64 x.seq) ∧ w'.cell? ⟨g, i * 7 + 3, none⟩ = some (.bool x.rcv) ∧ w'.cell? ⟨g, i * 7 + 4, none⟩ = some (.int .i64 x.last.1) ∧ w'.cell? ⟨g, i * 7 + 5, none⟩ = some (.string x.last.2))
          (first | assumption | exact ⟨k0', c1, c3, c4, c5⟩ | exact s5_store hcp hgp ⟨k0', c1, c3, c4, c5⟩)
          (fail)
        all_goals
          have hpw := PG.out
          have Y2 := Lib.hid (show KvAt ((w3.setCell ⟨p, 0, none⟩ (.int .i64 x.last.1)).setCell ⟨p, 1, none⟩ (.string x.last.2)).drew p x.last from ⟨(cset_ne (by omega)).trans (cset_at z1), cset_at ((cset_ne (by omega)).trans z2)⟩)
          have hqp : p ≠ q := by have := QP.out; omega
          have Y1 := Lib.hid (show KvAt ((w3.setCell ⟨p, 0, none⟩ (.int .i64 x.last.1)).setCell ⟨p, 1, none⟩ (.string x.last.2)).drew q x.last from ⟨((cset_far hqp).trans (cset_far hqp)).trans A3.out.1, ((cset_far hqp).trans (cset_far hqp)).trans A3.out.2⟩)
          have BE := Lib.hid (show Below w.heap.size w ((w3.setCell ⟨p, 0, none⟩ (.int .i64 x.last.1)).setCell ⟨p, 1, none⟩ (.string x.last.2)).drew from ((B3.out.setCell (p := ⟨p, 0, none⟩) hpw _).setCell (p := ⟨p, 1, none⟩) hpw _).drew)
          go_wp2_with fail
          go_meet
          exact ⟨rfl, rfl, Lib.hid ⟨⟨Y1.out, Y2.out⟩, BE.out⟩⟩
    case rest =>
      obtain ⟨rfl, rfl, hK⟩ := hcut
      rename World => w4
      have K4 := Lib.hid hK.out.1
      have B4 := Lib.hid hK.out.2
      clear hK k0' hLP MM RME CB K3 F3 A3 B3 Q3 R3
      go_wp2_with fail
      refine (qtold b most T P S1 w4 (QW.out _ B4.out) (by omega)).mono ?_
      rintro e w5 ⟨xa, xc, rfl, hxo, hb5⟩
      have B5 := Lib.hid (B4.out.trans (hb5.mono B4.out.size))
      have K5 := Lib.hid (K4.out.below hb5)
      have X5 := Lib.hid hxo
      have Z45 := Lib.hid hb5.size
      clear hxo hb5
      go_wp2_with fail
      refine (qwants b zs most T P S1 w5 (QW.out _ B5.out) hl HZS.out).mono ?_
      rintro e w6 ⟨za, zc, rfl, hzo, hb6⟩
      have B6 := Lib.hid (B5.out.trans (hb6.mono B5.out.size))
      have K6 := Lib.hid (K5.out.below hb6)
      have X6 := Lib.hid (owns_below X5.out hb6)
      have Z6 := Lib.hid hzo
      have Z56 := Lib.hid hb6.size
      clear hzo hb6
      go_upto_region 7 with fail
      obtain ⟨⟨y0, y1⟩, p0, p1⟩ := K6.out
      have heq := fun w => item_alike y w
      have e1 : (z == z) = true := by simp
      have e2 : (v == v) = true := by simp
      have e3 : (zd == zd) = true := by simp
      go_wp2_with fail
      refine (qseq s v b most T P S1 w6 (QW.out _ B6.out) hl HV.out).mono ?_
      rintro e w' ⟨rfl, rfl⟩
      go_wp2_with fail
      refine (qdone b zd most T P S1 w6 (QW.out _ B6.out) hl HZD.out).mono ?_
      rintro e w7 ⟨rfl, hb7⟩
      have B7 := Lib.hid (B6.out.trans (hb7.mono B6.out.size))
      have X7 := Lib.hid (owns_below X6.out hb7)
      have Z7 := Lib.hid (owns_below Z6.out hb7)
      have Z67 := Lib.hid hb7.size
      clear hb7 y0 y1 p0 p1 heq
      go_wp2_with fail
      refine (rdone c zd most T P S2 w7 (RW.out _ B7.out) hl HZD.out).mono ?_
      rintro e w8 ⟨rfl, hb8⟩
      have B8 := Lib.hid (B7.out.trans (hb8.mono B7.out.size))
      have X8 := Lib.hid (owns_below X7.out hb8)
      have Z8 := Lib.hid (owns_below Z7.out hb8)
      have Z78 := Lib.hid hb8.size
      clear hb8
      obtain ⟨L8, rm8, -⟩ := RW.out _ B8.out
      obtain ⟨ta8, tc8, ra8, rc8, M8⟩ := rm8
      have k2 := M8.2.1
      have HT8 := Lib.hid (HoldsK.own M8.2.2.2.2.1)
      clear M8
      go_wp2_with fail
      refine (sameItems_yes xa ta8 T.length xc tc8 T w8 (HoldsK.own X8.out) HT8.out (by omega)).mono ?_
      rintro e w9 ⟨rfl, hb9⟩
      have B9 := Lib.hid (B8.out.trans (hb9.mono B8.out.size))
      have X9 := Lib.hid (owns_below X8.out hb9)
      have Z9 := Lib.hid (owns_below Z8.out hb9)
      have Z89 := Lib.hid hb9.size
      clear hb9 k2
      go_wp2_with fail
      refine (rwants c zs most T P S2 w9 (RW.out _ B9.out) hl HZS.out).mono ?_
      rintro e w10 ⟨ua, uc, rfl, huo, hb10⟩
      have B10 := Lib.hid (B9.out.trans (hb10.mono B9.out.size))
      have X10 := Lib.hid (owns_below X9.out hb10)
      have Z10 := Lib.hid (owns_below Z9.out hb10)
      have Z910 := Lib.hid hb10.size
      have U10 := Lib.hid (holdsZ_own huo)
      clear huo hb10
      go_wp2_with fail
      refine (sameInts_any za ua zs.length zc zs.length uc zs zs w10 (holdsZ_own Z10.out) U10.out (by omega) (by omega)).mono ?_
      rintro e w' ⟨rfl, nn, rfl⟩
      have B11 := Lib.hid (B10.out.trans ((below_drewN w10 nn).mono B10.out.size))
      have X11 := Lib.hid (owns_below X10.out (below_drewN w10 nn))
      have Z11 := Lib.hid (owns_below Z10.out (below_drewN w10 nn))
      have hsz : (w10.drewN nn).heap.size = w10.heap.size := by simp
      have Z1011 := Lib.hid (Nat.le_of_eq hsz.symm)
      clear hsz
      generalize w10.drewN nn = w11 at *
      have dz : decide (zs = zs) = true := decide_eq_true rfl
      go_wp2_with fail
      refine (overItems_any w4.heap.size xa T.length xc _ w11 X11.out (by have := Z45.out; have := Z56.out; have := Z67.out; have := Z78.out; have := Z89.out; have := Z910.out; have := Z1011.out; omega) (by omega)).mono ?_
      rintro e w12 ⟨rfl, hb12, hg12⟩
      have B12 := Lib.hid (B11.out.trans (hb12.mono B4.out.size))
      have Z12 := Lib.hid (show w12.ownsRow w5.heap.size 3 1 (.slice za zs.length zc) zs.length (numsV zs) from mowns_block0 Z11.out (fun g hg => hg12.block g (Z11.out.lt g (by rw [hg]; rfl)).2 (fun e => by
        have h1 := (Z11.out.lt g (by rw [hg]; rfl)).1
        have h2 := (X5.out.lt g (by rw [← e])).2
        omega)))
      have Z1112 := Lib.hid hg12.size
      clear hb12 hg12
      go_wp2_with fail
      refine (overInts_any w5.heap.size za zs.length zc _ w12 Z12.out (by have := Z56.out; have := Z67.out; have := Z78.out; have := Z89.out; have := Z910.out; have := Z1011.out; have := Z1112.out; omega) (by omega)).mono ?_
      rintro e w13 ⟨rfl, hb13⟩
      have B13 := Lib.hid (B12.out.trans (hb13.mono B5.out.size))
      clear hb13
      go_wp2_with fail
      go_ret
      exact ⟨rfl, B13.out⟩
end Go.Proofs.Ytgghbgmeebihbaa
/- merge: what the script goes by -/
namespace Go.Proofs.Ytgghbgmeebihbaa
open Go.RowKit
set_option linter.unusedVariables false
set_option maxRecDepth 20000
theorem Pln.put {most : Int} {T : List KV} {P : List SM} {j : Nat} (h : Pln most T P j) (i : Nat) (hi : i < P.length) (ks : List KV) (en : Bool) (hk : ∀ k ∈ ks, k.2.size ≤ 1048576) (hl : ks.length ≤ 1000) : Pln most T (P.set i (putSM (P.getD i sm0) ks en)) (j + 1) := by
  have hm := mem_sm hi
  obtain ⟨q0, q1⟩ := h.seq _ hm
  obtain ⟨f0, f1, f2⟩ := h.fit _ hm
  refine ⟨by rw [List.length_set]; exact h.len, h.m1, h.m2, h.t, fun x hx => ?_, fun x hx => ?_, h.ts⟩
  · rcases List.mem_or_eq_of_mem_set hx with hx | rfl
    · have := h.seq x hx; omega
    · show 0 ≤ (P.getD i sm0).seq + 1 ∧ (P.getD i sm0).seq + 1 ≤ ((j + 1 : Nat) : Int)
      omega
  · rcases List.mem_or_eq_of_mem_set hx with hx | rfl
    · exact h.fit x hx
    · refine ⟨?_, hk, hl⟩
      show (if 0 < ks.length then ks.getD (ks.length - 1) k0 else (P.getD i sm0).last).2.size ≤ 1048576
      split
      · rename_i h0
        exact hk _ (by rw [List.getD_eq_getElem?_getD, List.getElem?_eq_getElem (by omega)]; simp)
      · exact f0
theorem Pln.up {most : Int} {T : List KV} {P : List SM} {j : Nat} (h : Pln most T P j) : Pln most T P (j + 1) := ⟨h.len, h.m1, h.m2, h.t, fun x hx => by have := h.seq x hx; omega, h.fit, h.ts⟩
theorem getD0_size {ks : List KV} (h : ∀ k ∈ ks, k.2.size ≤ 1048576) : (ks.getD 0 k0).2.size ≤ 1048576 := by
  cases ks with
  | nil => show (0 : Nat) ≤ 1048576; omega
  | cons k l => exact h k (by simp)
theorem Pln.tell {most : Int} {j : Nat} : ∀ (f : Nat) (T : List KV) (P : List SM) (out : List KV), Pln most T P j → Pln most (tellF most f T P out).1 (tellF most f T P out).2.1 j
  | 0, T, P, out, h => h
  | f + 1, T, P, out, h => by
    unfold tellF
    split
    · exact h
    · rename_i hd
      split
      · exact h
      · rename_i hh
        split
        · exact h
        · obtain ⟨h1, h2, h3⟩ := heads_mem (first_mem hh)
          have hm := mem_sm h1
          obtain ⟨f0, f1, f2⟩ := h.fit _ hm
          have hlt : (T.length : Int) < most := by
            have : doneB most T P = false := by simpa using hd
            unfold doneB at this
            have h4 := (Bool.or_eq_false_iff.1 this).1
            have := of_decide_eq_false h4
            omega
          have hm2 := h.m2
          refine Pln.tell f _ _ _ ⟨by rw [List.length_set]; exact h.len, h.m1, h.m2, by simp; omega, fun x hx => ?_, fun x hx => ?_, fun k hk => ?_⟩
          · rcases List.mem_or_eq_of_mem_set hx with hx | rfl
            · exact h.seq x hx
            · have hq := h.seq _ hm; exact hq
          · rcases List.mem_or_eq_of_mem_set hx with hx | rfl
            · exact h.fit x hx
            · exact ⟨f0, fun k hk => f1 k (List.mem_of_mem_tail hk), by show (P.getD _ sm0).wait.tail.length ≤ 1000; rw [List.length_tail]; omega⟩
          · rcases List.mem_append.1 hk with hk | hk
            · exact h.ts k hk
            · simp only [List.mem_singleton] at hk
              rw [hk, h3]
              exact getD0_size f1
theorem tell_out (most : Int) : ∀ (f : Nat) (T : List KV) (P : List SM) (out : List KV), (tellF most f T P out).2.2.length ≤ out.length + f
  | 0, T, P, out => by simp [tellF]
  | f + 1, T, P, out => by
    unfold tellF
    split
    · simp
    · split
      · simp
      · split
        · simp
        · have := tell_out most f (T ++ [(firstL (headsN P P.length)).2]) (P.set (firstL (headsN P P.length)).1 (popS (P.getD (firstL (headsN P P.length)).1 sm0))) (out ++ [(firstL (headsN P P.length)).2])
          simp at this ⊢
          omega
theorem Pln.start {m : Int} {zs : List Int} (hn : zs.length ≤ 6) (hm : 1 ≤ m ∧ m ≤ 10) : Pln m [] (zs.map mkS) 0 := by
  refine ⟨by simpa using hn, hm.1, hm.2, by simp, fun x hx => ?_, fun x hx => ?_, fun k hk => by simp at hk⟩
  · obtain ⟨d, _, rfl⟩ := List.mem_map.1 hx
    show (0 : Int) ≤ 0 ∧ (0 : Int) ≤ ((0 : Nat) : Int)
    omega
  · obtain ⟨d, _, rfl⟩ := List.mem_map.1 hx
    exact ⟨by show (0 : Nat) ≤ 1048576; omega, fun k hk => by simp [mkS] at hk, by show (0 : Nat) ≤ 1000; omega⟩
theorem roomy2_owns {w : World} {B base : Nat} {e : TypeId} {n k : Nat} {ks : List KV} (h : Roomy2 w B e n ks k) (hl : ks.length = n) (hB : base ≤ B) (hn : n ≤ 1000000) : w.ownsRow base e 2 (.slice (some ⟨B, 0, none⟩) n (n + 3)) n (keysV ks) := by
  obtain ⟨cs, h1, h2, h3, h4⟩ := h
  have hkl := keysV_len ks
  refine ⟨by rw [hkl, hl], Or.inr ⟨B, n + 3, cs, rfl, hB, h1, by omega, by unfold maxLen; omega, h2, ?_⟩⟩
  refine List.ext_getElem? (fun i => ?_)
  by_cases hi : i < n * 2
  · rw [List.getElem?_take_of_lt hi, Array.getElem?_toList]
    obtain ⟨v1, v2⟩ := h3 (i / 2) (by omega)
    obtain ⟨u1, u2⟩ := keysV_at ks (i / 2) (by omega)
    by_cases hp : i % 2 = 0
    · have e : i / 2 * 2 = i := by omega
      rw [e] at v1 u1; rw [v1, u1]
    · have e : i / 2 * 2 + 1 = i := by omega
      rw [e] at v2 u2; rw [v2, u2]
  · rw [List.getElem?_eq_none (by rw [List.length_take]; omega), List.getElem?_eq_none (by omega)]
theorem Roomy2.turn {w w' : World} {B : Nat} {e : TypeId} {n k : Nat} {ks : List KV} {S : Nat → Prop} (h : Roomy2 w B e n ks k) (t : Turn S w w') (hB : ¬ S B) : Roomy2 w' B e n ks k := by
  obtain ⟨cs, h1, h2⟩ := h
  exact ⟨cs, by rw [t.block B (Array.getElem?_eq_some_iff.1 h1).1 hB]; exact h1, h2⟩
theorem Roomy2.lt {w : World} {B : Nat} {e : TypeId} {n k : Nat} {ks : List KV} (h : Roomy2 w B e n ks k) : B < w.heap.size := by
  obtain ⟨cs, h1, h2⟩ := h
  exact (Array.getElem?_eq_some_iff.1 h1).1
theorem MActIn.turn {w w' : World} {p o : Nat} {x : MAct} {S : Nat → Prop} (h : MActIn w p o x) (t : Turn S w w') (hn : ¬ S p) : MActIn w' p o x := h.of fun i => t.cell (lt_of_cell h.1) hn
/-- both merges; the act's copy; what was lent -/
structure MC (w0 w : World) (Q R : World → (Nat → Prop) → Prop) (x : MAct) (p : Nat) (S1 S2 : Nat → Prop) : Prop where
  t : TwoO Q R w0 w S1 S2
  np1 : ¬ S1 p
  np2 : ¬ S2 p
  act : MActIn w p 0 x
theorem MC.lt {w0 w : World} {Q R : World → (Nat → Prop) → Prop} {x : MAct} {p : Nat} {S1 S2 : Nat → Prop} (h : MC w0 w Q R x p S1 S2) : p < w.heap.size := lt_of_cell h.act.1
theorem MC.more {w0 w w' : World} {Q R : World → (Nat → Prop) → Prop} (oq : ObjOk Q) (or : ObjOk R) {x : MAct} {p : Nat} {S1 S2 : Nat → Prop} (h : MC w0 w Q R x p S1 S2) (hb : Below w.heap.size w w') : MC w0 w' Q R x p S1 S2 :=
  ⟨h.t.more oq or hb, h.np1, h.np2, h.act.below hb⟩
theorem MC.left {w0 w w' : World} {Q Q' R : World → (Nat → Prop) → Prop} (oq : ObjOk Q') (or : ObjOk R) {x : MAct} {p : Nat} {S1 S2 : Nat → Prop} (h : MC w0 w Q R x p S1 S2) (k : PO Q' w S1 w') : ∃ T, MC w0 w' Q' R x p T S2 ∧ (∀ k, T k → S1 k ∨ w.heap.size ≤ k) := by
  obtain ⟨T, c, s⟩ := h.t.left oq or k
  exact ⟨T, ⟨c, fun hp => by rcases s p hp with x | x; exact h.np1 x; have := h.lt; omega, h.np2, h.act.turn k.turn h.np1⟩, s⟩
theorem MC.right {w0 w w' : World} {Q R R' : World → (Nat → Prop) → Prop} (oq : ObjOk Q) (or : ObjOk R') {x : MAct} {p : Nat} {S1 S2 : Nat → Prop} (h : MC w0 w Q R x p S1 S2) (k : PO R' w S2 w') : ∃ T, MC w0 w' Q R' x p S1 T ∧ (∀ k, T k → S2 k ∨ w.heap.size ≤ k) := by
  obtain ⟨T, c, s⟩ := h.t.right oq or k
  exact ⟨T, ⟨c, h.np1, fun hp => by rcases s p hp with x | x; exact h.np2 x; have := h.lt; omega, h.act.turn k.turn h.np2⟩, s⟩
theorem MC.left1 {w0 w w' : World} {Q Q' R : World → (Nat → Prop) → Prop} (or : ObjOk R) {x : MAct} {p : Nat} {S1 S2 T : Nat → Prop} (h : MC w0 w Q R x p S1 S2) (q : Q' w' T) (s : ∀ k, T k → S1 k ∨ w.heap.size ≤ k) (t : Turn S1 w w') : MC w0 w' Q' R x p T S2 :=
  ⟨h.t.left1 or q s t, fun hp => by rcases s p hp with x | x; exact h.np1 x; have := h.lt; omega, h.np2, h.act.turn t h.np1⟩
theorem MC.right1 {w0 w w' : World} {Q R R' : World → (Nat → Prop) → Prop} (oq : ObjOk Q) {x : MAct} {p : Nat} {S1 S2 T : Nat → Prop} (h : MC w0 w Q R x p S1 S2) (q : R' w' T) (s : ∀ k, T k → S2 k ∨ w.heap.size ≤ k) (t : Turn S2 w w') : MC w0 w' Q R' x p S1 T :=
  ⟨h.t.right1 oq q s t, h.np1, fun hp => by rcases s p hp with x | x; exact h.np2 x; have := h.lt; omega, h.act.turn t h.np2⟩
/-- besides: what was lent lies in a block of its own -/
structure MB (w0 w : World) (Q R : World → (Nat → Prop) → Prop) (x : MAct) (p B : Nat) (S1 S2 : Nat → Prop) : Prop where
  m : MC w0 w Q R x p S1 S2
  nb1 : ¬ S1 B
  nb2 : ¬ S2 B
  nbp : B ≠ p
  nb0 : w0.heap.size ≤ B
  room : Roomy2 w B 61 x.inn x.ks 3
theorem MB.more {w0 w w' : World} {Q R : World → (Nat → Prop) → Prop} (oq : ObjOk Q) (or : ObjOk R) {x : MAct} {p B : Nat} {S1 S2 : Nat → Prop} (h : MB w0 w Q R x p B S1 S2) (hb : Below w.heap.size w w') : MB w0 w' Q R x p B S1 S2 :=
  ⟨h.m.more oq or hb, h.nb1, h.nb2, h.nbp, h.nb0, h.room.below hb⟩
theorem MB.left {w0 w w' : World} {Q Q' R : World → (Nat → Prop) → Prop} (oq : ObjOk Q') (or : ObjOk R) {x : MAct} {p B : Nat} {S1 S2 : Nat → Prop} (h : MB w0 w Q R x p B S1 S2) (k : PO Q' w S1 w') : ∃ T, MB w0 w' Q' R x p B T S2 := by
  obtain ⟨T, c, s⟩ := h.m.left oq or k
  exact ⟨T, c, fun hp => by rcases s B hp with x | x; exact h.nb1 x; have := h.room.lt; omega, h.nb2, h.nbp, h.nb0, h.room.turn k.turn h.nb1⟩
theorem MB.right {w0 w w' : World} {Q R R' : World → (Nat → Prop) → Prop} (oq : ObjOk Q) (or : ObjOk R') {x : MAct} {p B : Nat} {S1 S2 : Nat → Prop} (h : MB w0 w Q R x p B S1 S2) (k : PO R' w S2 w') : ∃ T, MB w0 w' Q R' x p B S1 T := by
  obtain ⟨T, c, s⟩ := h.m.right oq or k
  exact ⟨T, c, h.nb1, fun hp => by rcases s B hp with x | x; exact h.nb2 x; have := h.room.lt; omega, h.nbp, h.nb0, h.room.turn k.turn h.nb2⟩
theorem MB.holds {w0 w : World} {Q R : World → (Nat → Prop) → Prop} {x : MAct} {p B : Nat} {S1 S2 : Nat → Prop} (h : MB w0 w Q R x p B S1 S2) (hl : x.ks.length = x.inn) : HoldsK w (some ⟨B, 0, none⟩) x.inn x.ks := h.room.holds hl
theorem MC.same {w0 w w' : World} {Q R : World → (Nat → Prop) → Prop} (oq : ObjOk Q) (or : ObjOk R) {x : MAct} {p : Nat} {S1 S2 F : Nat → Prop} (h : MC w0 w Q R x p S1 S2) (t : Turn F w w') (h1 : ∀ k, S1 k → ¬ F k) (h2 : ∀ k, S2 k → ¬ F k) (h3 : ¬ F p) (h4 : ∀ k, F k → w0.heap.size ≤ k) : MC w0 w' Q R x p S1 S2 :=
  ⟨⟨oq.turn h.t.q t h1, or.turn h.t.r t h2, h.t.d, h.t.l1, h.t.l2, h.t.b.trans (t.below h4 h.t.b.size)⟩, h.np1, h.np2, h.act.turn t h3⟩
end Go.Proofs.Ytgghbgmeebihbaa
