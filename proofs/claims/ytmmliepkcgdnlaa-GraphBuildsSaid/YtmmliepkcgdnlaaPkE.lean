/- texts joined -/
import Derived.Test.YtmmliepkcgdnlaaPkC
import Derived.Deep.AppendLies
import Derived.Test.YtmmliepkcgdnlaaPkA
import Derived.Test.YtmmliepkcgdnlaaChecked
import Derived.WalkLawsBesides
/- graph: From's closure -/
namespace Go.Proofs.Ytmmliepkcgdnlaa
open Go.RowKit
set_option linter.unusedVariables false
set_option maxRecDepth 20000
/-- a word is handed over: what is held then, and whether more may come -/
def takeO (lo : Tx) (out : List Tx) (x : Tx) : List Tx := if cmpS x lo < 0 then out else out ++ [x]
def takeL (lo : Tx) (most : Int) : List Tx → List Tx → List Tx × Bool
  | out, [] => (out, true)
  | out, x :: l => if ((takeO lo out x).length : Int) < most then takeL lo most (takeO lo out x) l else (takeO lo out x, false)
theorem takeO_len (lo : Tx) (out : List Tx) (x : Tx) : (takeO lo out x).length ≤ out.length + 1 := by
  unfold takeO; split <;> simp
theorem takeL_len (lo : Tx) (most : Int) : ∀ (l out : List Tx), (takeL lo most out l).1.length ≤ out.length + l.length
  | [], out => by simp [takeL]
  | x :: l, out => by
    have h1 := takeO_len lo out x
    have h2 := takeL_len lo most l (takeO lo out x)
    unfold takeL
    split
    · simp only [List.length_cons]; omega
    · simp only [List.length_cons]; omega
theorem takeL_app (lo : Tx) (most : Int) : ∀ (a b out : List Tx), takeL lo most out (a ++ b) = if (takeL lo most out a).2 then takeL lo most (takeL lo most out a).1 b else ((takeL lo most out a).1, false)
  | [], b, out => by simp [takeL]
  | x :: a, b, out => by
    have ih := takeL_app lo most a b (takeO lo out x)
    simp only [List.cons_append, takeL]
    split
    · exact ih
    · simp
/-- what the closure holds: the text, the list, how many -/
structure QT (B : Nat) (lo : Tx) (most : Int) (p1 p2 p3 : Nat) (out : List Tx) (oa : Option Addr) (oc : Nat) (w : World) (S : Nat → Prop) : Prop where
  c1 : w.cell? ⟨p1, 0, none⟩ = some (.string lo)
  c2 : w.cell? ⟨p2, 0, none⟩ = some (.slice oa out.length oc)
  c3 : w.cell? ⟨p3, 0, none⟩ = some (.int .i64 most)
  f : ∀ i, w.frozen? ⟨p2, i, none⟩ = false
  o : w.ownsRow B 9 1 (.slice oa out.length oc) out.length (strsV out)
  s1 : S p1
  s2 : S p2
  s3 : S p3
  n1 : p1 ≠ p2
  n2 : p3 ≠ p2
  no : ∀ q, oa = some ⟨q, 0, none⟩ → S q ∧ q ≠ p1 ∧ q ≠ p2 ∧ q ≠ p3
  lt : ∀ k, S k → k < w.heap.size
  b : B ≤ w.heap.size
def QTs (B : Nat) (lo : Tx) (most : Int) (p1 p2 p3 : Nat) (out : List Tx) (w : World) (S : Nat → Prop) : Prop := ∃ oa oc, QT B lo most p1 p2 p3 out oa oc w S
theorem QT.blocks {B : Nat} {lo : Tx} {most : Int} {p1 p2 p3 : Nat} {out : List Tx} {oa : Option Addr} {oc : Nat} {w w' : World} {S : Nat → Prop} (h : QT B lo most p1 p2 p3 out oa oc w S) (hs : w.heap.size ≤ w'.heap.size) (hb : ∀ k, S k → w'.heap[k]? = w.heap[k]?) : QT B lo most p1 p2 p3 out oa oc w' S :=
  ⟨(World.cell?_of_block (w := w) (hb p1 h.s1)).trans h.c1, (World.cell?_of_block (w := w) (hb p2 h.s2)).trans h.c2, (World.cell?_of_block (w := w) (hb p3 h.s3)).trans h.c3, fun i => (World.frozen?_of_block (w := w) (hb p2 h.s2)).trans (h.f i), gowns_block h.o (fun q hq => hb q (h.no q hq).1), h.s1, h.s2, h.s3, h.n1, h.n2, h.no, fun k hk => Nat.lt_of_lt_of_le (h.lt k hk) hs, Nat.le_trans h.b hs⟩
theorem qts_ok (B : Nat) (lo : Tx) (most : Int) (p1 p2 p3 : Nat) (out : List Tx) : ObjOk (QTs B lo most p1 p2 p3 out) :=
  ⟨fun h t hF => by obtain ⟨oa, oc, x⟩ := h; exact ⟨oa, oc, x.blocks t.size (fun k hk => t.block k (x.lt k hk) (hF k hk))⟩, fun h => by obtain ⟨oa, oc, x⟩ := h; exact x.lt⟩
theorem strsV_snocG (l : List Tx) (x : Tx) : strsV (l ++ [x]) = strsV l ++ [.string x] := by simp [strsV]
/-- behind a word more -/
theorem QT.grow {B : Nat} {lo x : Tx} {most : Int} {p1 p2 p3 : Nat} {out : List Tx} {oa : Option Addr} {oc : Nat} {w w6 : World} {S : Nat → Prop} {q cap : Nat} {o : Obj} (h : QT B lo most p1 p2 p3 out oa oc w S)
    (own : w6.ownsRow B 9 1 (.slice (some ⟨q, 0, none⟩) (out.length + 1) cap) (out.length + 1) (strsV out ++ [.string x]))
    (hg : (w.alloc o).grownBy w6 (Value.slice oa out.length oc).ownBlock) (hat : (Value.slice oa out.length oc).ownBlock = some q ∨ q = (w.alloc o).heap.size) (hlt : q < w6.heap.size) :
    PO (QTs B lo most p1 p2 p3 (out ++ [x])) w S (w6.setCell ⟨p2, 0, none⟩ (.slice (some ⟨q, 0, none⟩) (out.length + 1) cap)) := by
  have hza : (w.alloc o).heap.size = w.heap.size + 1 := by simp
  have hz6 := hg.size
  have old : ∀ k, k < w.heap.size → (∀ r, oa = some ⟨r, 0, none⟩ → k ≠ r) → w6.heap[k]? = w.heap[k]? := fun k hk hn =>
    (hg.block k (by omega) (fun e => hn k (gown_at h.o e) rfl)).trans (Below.heap_alloc _ _ _ (by omega))
  have ob1 := old p1 (h.lt _ h.s1) (fun r e hq => (h.no r e).2.1 hq.symm)
  have ob2 := old p2 (h.lt _ h.s2) (fun r e hq => (h.no r e).2.2.1 hq.symm)
  have ob3 := old p3 (h.lt _ h.s3) (fun r e hq => (h.no r e).2.2.2 hq.symm)
  have gq : q ≠ p1 ∧ q ≠ p2 ∧ q ≠ p3 := by
    rcases hat with e | e
    · exact (h.no q (gown_at h.o e.symm)).2
    · have := h.lt _ h.s1; have := h.lt _ h.s2; have := h.lt _ h.s3; omega
  have sz : (w6.setCell ⟨p2, 0, none⟩ (.slice (some ⟨q, 0, none⟩) (out.length + 1) cap)).heap.size = w6.heap.size := by simp [World.setCell]
  have hlen : (out ++ [x]).length = out.length + 1 := by simp
  have n1 := h.n1; have n2 := h.n2
  refine ⟨fun k => S k ∨ k = q, ⟨some ⟨q, 0, none⟩, cap, ⟨?_, ?_, ?_, fun i => ?_, ?_, Or.inl h.s1, Or.inl h.s2, Or.inl h.s3, h.n1, h.n2, fun r hr => ?_, fun k hk => ?_, ?_⟩⟩, fun k hk => ?_, ?_⟩
  · rw [cset_far (Ne.symm n1)]; exact (World.cell?_of_block (w := w) ob1).trans h.c1
  · rw [hlen]; exact cset_at ((World.cell?_of_block (w := w) ob2).trans h.c2)
  · rw [cset_far (Ne.symm n2)]; exact (World.cell?_of_block (w := w) ob3).trans h.c3
  · rw [fset_any]; exact (World.frozen?_of_block (w := w) ob2).trans (h.f i)
  · rw [hlen, strsV_snocG]
    exact gowns_block own (fun r hr => by injection hr with hr; injection hr with hr; subst hr; exact gheap_far gq.2.1)
  · injection hr with hr; injection hr with hr; subst hr
    exact ⟨Or.inr rfl, gq⟩
  · rw [sz]
    rcases hk with hk | hk
    · have := h.lt k hk; omega
    · rw [hk]; exact hlt
  · rw [sz]; have := h.b; omega
  · rcases hk with hk | hk
    · exact Or.inl hk
    · rcases hat with e | e
      · exact Or.inl (by rw [hk]; exact (h.no q (gown_at h.o e.symm)).1)
      · exact Or.inr (by omega)
  · refine Turn.trans ?_ (Turn.setCell h.s2)
    exact ⟨hg.os, hg.tape, hg.output, by omega, fun k hk hn => old k hk (fun r e h2 => hn (by rw [h2]; exact (h.no r e).1))⟩
theorem QT.mid {B : Nat} {lo : Tx} {most : Int} {p1 p2 p3 : Nat} {out : List Tx} {oa : Option Addr} {oc : Nat} {w w6 : World} {S : Nat → Prop} {o : Obj} (h : QT B lo most p1 p2 p3 out oa oc w S) (hg : (w.alloc o).grownBy w6 (Value.slice oa out.length oc).ownBlock) :
    w6.cell? ⟨p2, 0, none⟩ = some (.slice oa out.length oc) ∧ w6.frozen? ⟨p2, 0, none⟩ = false ∧ ∀ v, (w6.setCell ⟨p2, 0, none⟩ v).cell? ⟨p3, 0, none⟩ = some (.int .i64 most) := by
  have hza : (w.alloc o).heap.size = w.heap.size + 1 := by simp
  have old : ∀ k, k < w.heap.size → (∀ r, oa = some ⟨r, 0, none⟩ → k ≠ r) → w6.heap[k]? = w.heap[k]? := fun k hk hn =>
    (hg.block k (by omega) (fun e => hn k (gown_at h.o e) rfl)).trans (Below.heap_alloc _ _ _ (by omega))
  have ob2 := old p2 (h.lt _ h.s2) (fun r e hq => (h.no r e).2.2.1 hq.symm)
  have ob3 := old p3 (h.lt _ h.s3) (fun r e hq => (h.no r e).2.2.2 hq.symm)
  exact ⟨(World.cell?_of_block (w := w) ob2).trans h.c2, (World.frozen?_of_block (w := w) ob2).trans (h.f 0), fun v => (cset_far (Ne.symm h.n2)).trans ((World.cell?_of_block (w := w) ob3).trans h.c3)⟩
set_option maxHeartbeats 1600000 in
theorem take_any (B : Nat) (lo : Tx) (most : Int) (p1 p2 p3 : Nat) (out : List Tx) (x : Tx) (S : Nat → Prop) (w : World) (h : QTs B lo most p1 p2 p3 out w S) (hl : out.length ≤ 10000) :
    Calls Try.prog 48 #[.string x, .pointer (some ⟨p1, 0, none⟩), .pointer (some ⟨p2, 0, none⟩), .pointer (some ⟨p3, 0, none⟩)] w fun e w' => e = .returned (.bool (decide (((takeO lo out x).length : Int) < most))) ∧ PO (QTs B lo most p1 p2 p3 (takeO lo out x)) w S w' := by
  obtain ⟨oa, oc, hq⟩ := h
  obtain ⟨i0, hi, hz0, hz1, hz2⟩ := info_parts strG_info
  have c1 := hq.c1; have c2 := hq.c2; have c3 := hq.c3; have f0 := hq.f 0
  have Q := Lib.hid hq
  clear hq
  by_cases hc : cmpS x lo < 0
  · have e : takeO lo out x = out := if_pos hc
    rw [e]
    clear e
    have d1 : decide (cmpS x lo ≥ 0) = false := decide_eq_false (by omega)
    go_enter Try.func48, Try.ntmps48
    go_wp2_with (go_at_call 46; refine (compare_any _ _ _).mono ?_; rintro e w' ⟨rfl, rfl⟩)
    go_ret
    exact ⟨rfl, S, ⟨oa, oc, Q.out⟩, fun k hk => Or.inl hk, Turn.refl _ _⟩
  · have e : takeO lo out x = out ++ [x] := if_neg hc
    rw [e, show ((out ++ [x]).length : Int) = (out.length : Int) + 1 by simp]
    clear e
    have d1 : decide (cmpS x lo ≥ 0) = true := decide_eq_true (by omega)
    go_enter Try.func48, Try.ntmps48
    have hba := Q.out.b
    have OW := Lib.hid (Q.out.o)
    go_wp2_with (first | (go_at_call 46; refine (compare_any _ _ _).mono ?_; rintro e w' ⟨rfl, rfl⟩) | (at_builtin; refine wpList_append_lies _ rfl (.tmp 10) (.tmp 12) 22 rfl B 9 i0 _ 1 16 Try.underlying22 hi hz0 hz1 hz2 rfl (by omega) (.slice oa out.length oc) out.length (strsV out) (by rfl) (OW.out.alloc _) ⟨w.heap.size, 0, none⟩ 1 1 [.string x] (by rfl) (by rfl) (World.news_of_block (cs := #[.string x]) (t := 9) (fr := (0, 0)) (heap_alloc_new w _)) (by simp [Value.oneCell']) (by omega) (by unfold maxLen; omega) (by omega) (by simp; omega) (w.heap.size + 1) (by simp) ?_; intro g3 c3' w3 hown3 hgrow3 hat3 hlt3; have GR := Lib.hid (Q.out.grow hown3 hgrow3 (hat3.imp id (fun e => by simp; exact e)) hlt3); obtain ⟨m1, m2, m3⟩ := Q.out.mid hgrow3; clear hown3 hgrow3 hat3 hlt3))
    go_ret
    exact ⟨rfl, GR.out⟩
end Go.Proofs.Ytmmliepkcgdnlaa
/- a rune written and what is behind it: the text -/
namespace Go.Proofs.Ytmmliepkcgdnlaa
open Go.RowKit
set_option linter.unusedVariables false
set_option maxRecDepth 20000
theorem ue_decodeN_good (n b0 b1 b2 b3 : Nat) (hg : (Lib.decodeN n b0 b1 b2 b3).1 ≠ 65533) (h0 : b0 < 256) :
    ((Lib.decodeN n b0 b1 b2 b3).1 < 55296 ∨ 57343 < (Lib.decodeN n b0 b1 b2 b3).1) ∧ (Lib.decodeN n b0 b1 b2 b3).1 ≤ 1114111 := by
  unfold Lib.decodeN at *
  by_cases k0 : b0 < 128
  · rw [if_pos k0]; exact ⟨Or.inl (show b0 < 55296 by omega), (show b0 ≤ 1114111 by omega)⟩
  rw [if_neg k0] at hg ⊢
  by_cases k1 : b0 / 32 = 6 ∧ 1 < n ∧ b1 / 64 = 2
  · rw [if_pos k1] at hg ⊢
    by_cases h : b0 % 32 * 64 + b1 % 64 ≥ 128
    · rw [if_pos h]; exact ⟨Or.inl (show b0 % 32 * 64 + b1 % 64 < 55296 by omega), (show b0 % 32 * 64 + b1 % 64 ≤ 1114111 by omega)⟩
    · rw [if_neg h] at hg; exact absurd rfl hg
  rw [if_neg k1] at hg ⊢
  by_cases k2 : b0 / 16 = 14 ∧ (1 < n ∧ b1 / 64 = 2) ∧ 2 < n ∧ b2 / 64 = 2
  · rw [if_pos k2] at hg ⊢
    by_cases h : b0 % 16 * 4096 + b1 % 64 * 64 + b2 % 64 ≥ 2048 ∧ (b0 % 16 * 4096 + b1 % 64 * 64 + b2 % 64 < 55296 ∨ (57344 ≤ b0 % 16 * 4096 + b1 % 64 * 64 + b2 % 64 ∧ b0 % 16 * 4096 + b1 % 64 * 64 + b2 % 64 ≤ 1114111))
    · rw [if_pos h]
      refine ⟨?_, show b0 % 16 * 4096 + b1 % 64 * 64 + b2 % 64 ≤ 1114111 by omega⟩
      show b0 % 16 * 4096 + b1 % 64 * 64 + b2 % 64 < 55296 ∨ 57343 < b0 % 16 * 4096 + b1 % 64 * 64 + b2 % 64
      omega
    · rw [if_neg h] at hg; exact absurd rfl hg
  rw [if_neg k2] at hg ⊢
  by_cases k3 : b0 / 8 = 30 ∧ (1 < n ∧ b1 / 64 = 2) ∧ (2 < n ∧ b2 / 64 = 2) ∧ 3 < n ∧ b3 / 64 = 2
  · rw [if_pos k3] at hg ⊢
    by_cases h : b0 % 8 * 262144 + b1 % 64 * 4096 + b2 % 64 * 64 + b3 % 64 ≥ 65536 ∧ (b0 % 8 * 262144 + b1 % 64 * 4096 + b2 % 64 * 64 + b3 % 64 < 55296 ∨ (57344 ≤ b0 % 8 * 262144 + b1 % 64 * 4096 + b2 % 64 * 64 + b3 % 64 ∧ b0 % 8 * 262144 + b1 % 64 * 4096 + b2 % 64 * 64 + b3 % 64 ≤ 1114111))
    · rw [if_pos h]
      refine ⟨?_, show b0 % 8 * 262144 + b1 % 64 * 4096 + b2 % 64 * 64 + b3 % 64 ≤ 1114111 by omega⟩
      show b0 % 8 * 262144 + b1 % 64 * 4096 + b2 % 64 * 64 + b3 % 64 < 55296 ∨ 57343 < b0 % 8 * 262144 + b1 % 64 * 4096 + b2 % 64 * 64 + b3 % 64
      omega
    · rw [if_neg h] at hg; exact absurd rfl hg
  rw [if_neg k3] at hg
  exact absurd rfl hg
theorem ue_drop_byte (s : ByteArray) (j : Nat) (h : j < s.size) : s.toList.drop j = UInt8.ofNat (byteS s j) :: s.toList.drop (j + 1) := by
  obtain ⟨c, h1, h2⟩ := drop_at s j h
  rw [h1, ← h2, UInt8.ofNat_toNat]
theorem ue_bytes_list (s : ByteArray) (pos w : Nat) (h : pos + w ≤ s.size) (h1 : 1 ≤ w) (h4 : w ≤ 4) :
    (s.toList.drop pos).take w = ([byteS s pos, byteS s (pos + 1), byteS s (pos + 2), byteS s (pos + 3)].take w).map UInt8.ofNat := by
  have hw : w = 1 ∨ w = 2 ∨ w = 3 ∨ w = 4 := by omega
  rcases hw with rfl | rfl | rfl | rfl
  · rw [ue_drop_byte s pos (by omega)]; rfl
  · rw [ue_drop_byte s pos (by omega), ue_drop_byte s (pos + 1) (by omega)]; rfl
  · rw [ue_drop_byte s pos (by omega), ue_drop_byte s (pos + 1) (by omega), ue_drop_byte s (pos + 1 + 1) (by omega)]; rfl
  · rw [ue_drop_byte s pos (by omega), ue_drop_byte s (pos + 1) (by omega), ue_drop_byte s (pos + 1 + 1) (by omega), ue_drop_byte s (pos + 1 + 1 + 1) (by omega)]; rfl
theorem ue_enc_width {r w b0 b1 b2 b3 : Nat} (h : Enc r w b0 b1 b2 b3) : 1 ≤ w ∧ w ≤ 4 ∧ r ≤ 1114111 := by unfold Enc at h; omega
/-- a rune read well: its bytes -/
theorem ue_read_well (s : ByteArray) (pos : Nat) (h : pos < s.size) (hg : (Utf8.decode s pos).1 ≠ 65533) :
    Enc (Utf8.decode s pos).1 (Utf8.decode s pos).2 (byteS s pos) (byteS s (pos + 1)) (byteS s (pos + 2)) (byteS s (pos + 3)) ∧ ((Utf8.decode s pos).1 < 55296 ∨ 57343 < (Utf8.decode s pos).1) := by
  rw [decode_bytes] at hg ⊢
  exact ⟨decodeN_enc _ _ _ _ _ (byteS_lt _ _) hg, (ue_decodeN_good _ _ _ _ _ hg (byteS_lt _ _)).1⟩
theorem encode_enc (r w b0 b1 b2 b3 : Nat) (h : Enc r w b0 b1 b2 b3) (hs : r < 55296 ∨ 57343 < r) : (Utf8.encode (r : Int)).data.toList = ([b0, b1, b2, b3].take w).map UInt8.ofNat := by
  have hr : r ≤ 1114111 := (ue_enc_width h).2.2
  have hv : Utf8.valid (r : Int) = true := by
    unfold Utf8.valid
    simp only [Bool.or_eq_true, Bool.and_eq_true, decide_eq_true_eq]
    omega
  unfold Utf8.encode
  rw [if_pos hv]
  simp only [Int.toNat_natCast]
  rcases h with ⟨rfl, rfl, h⟩ | ⟨rfl, h0, h1, h2, h3⟩ | ⟨rfl, h0, h1, h2, h3, h4⟩ | ⟨rfl, h0, h1, h2, h3, h4, h5⟩
  · rw [if_pos (by omega)]; rfl
  · rw [if_neg (by omega), if_pos (by omega), h0, h1]; rfl
  · rw [if_neg (by omega), if_neg (by omega), if_pos (by omega), h0, h1, h2]; rfl
  · rw [if_neg (by omega), if_neg (by omega), if_neg (by omega), h0, h1, h2, h3]; rfl
theorem enc_rst {t : Tx} (h : 0 ≤ lenS t) (h0 : 0 < t.size) : Utf8.encode (labS t : Int) ++ rstS t = t := by
  obtain ⟨h1, h2, -⟩ := good_first h h0
  obtain ⟨e1, e2⟩ := ue_read_well t 0 h0 h1
  have hw := ue_enc_width e1
  have hx : Utf8.encode (labS t : Int) = t.extract 0 (Utf8.decode t 0).2 := by
    have hb := ue_bytes_list t 0 _ (by omega) hw.1 hw.2.1
    have he := encode_enc _ _ _ _ _ _ e1 e2
    rw [← hb, List.drop_zero, ByteArray.toList_eq] at he
    have hl : labS t = (Utf8.decode t 0).1 := rfl
    rw [hl]
    apply tx_ext
    rw [he]
    have hz := (extract_size t (Utf8.decode t 0).2 h2).1
    have hj : (t.extract 0 (Utf8.decode t 0).2 ++ rstS t).data.toList = t.data.toList := by rw [rst_split h h0]
    rw [show ∀ a b : ByteArray, (a ++ b).data.toList = a.data.toList ++ b.data.toList from fun a b => by simp] at hj
    rw [← hj]
    have hn : (t.extract 0 (Utf8.decode t 0).2).data.toList.length = (Utf8.decode t 0).2 := by rw [Array.length_toList]; exact hz
    exact List.take_left' hn
  rw [hx]
  exact rst_split h h0
end Go.Proofs.Ytmmliepkcgdnlaa
/- graph: each -/
namespace Go.Proofs.Ytmmliepkcgdnlaa
open Go.RowKit
set_option linter.unusedVariables false
set_option maxRecDepth 20000
theorem GAt.edges {g : Nat} {st : List GN} {w : World} {Sg S : Nat → Prop} (h : GAt g st w Sg) (hA : ∀ k, Sg k → ¬ S k) {n : Nat} (hn : n < st.length) : ∃ q nc ea ec, w.cell? ⟨g, 0, none⟩ = some (.slice (some ⟨q, 0, none⟩) st.length nc) ∧ w.cell? ⟨q, n * 2, none⟩ = some (.bool (st.getD n gn0).final) ∧ (∀ w', Turn S w w' → w'.cell? ⟨g, 0, none⟩ = some (.slice (some ⟨q, 0, none⟩) st.length nc) ∧ w'.cell? ⟨q, n * 2 + 1, none⟩ = some (.slice ea (st.getD n gn0).edges.length ec) ∧ HoldsEd w' ea (st.getD n gn0).edges.length (st.getD n gn0).edges) := by
  obtain ⟨na, nc, NL, G, e⟩ := h
  obtain ⟨e1, e2⟩ := map_eqG _ _ e
  have c := G.c
  obtain ⟨q, rfl, c0, c1⟩ := G.at (i := n) (by omega)
  obtain ⟨e3, e4⟩ := e2 n hn
  rw [e1] at c
  rw [e3] at c0
  have ei := G.e _ (mem_nm (show n < NL.length by omega))
  unfold EdIn at ei
  rw [e4] at c1 ei
  exact ⟨q, nc, _, _, c, c0, fun w' t => ⟨(t.cell (lt_of_cell c) (hA _ G.sg)).trans c, (t.cell (lt_of_cell c1) (hA _ (G.sn q rfl).1)).trans c1, holdsEd_blocks ei.1 (fun fb fo e => t.block fb (G.lt fb (ei.2.2.2 fb fo e).1) (hA _ (ei.2.2.2 fb fo e).1))⟩⟩
theorem fol_map {l : List Tx} (h : Run l) (h0 : l ≠ []) (s : Tx) : (folS l).2.map (fun x => (s ++ Utf8.encode ((folS l).1 : Int)) ++ x) = (l.take (folS l).2.length).map (fun x => s ++ x) := by
  obtain ⟨k, hk, h1, h2⟩ := fol_split h0
  rw [← hk, h2, List.map_map]
  refine List.map_congr_left fun u hu => ?_
  have hm : u ∈ l := List.mem_of_mem_take hu
  have hl : labS u = (folS l).1 := by
    rw [h1] at hu
    have h3 := mem_tw (p := fun t => decide (labS t = labS (l.getD 0 ByteArray.empty))) hu
    rw [show labS u = labS (l.getD 0 ByteArray.empty) from of_decide_eq_true h3]
    cases l with
    | nil => exact absurd rfl h0
    | cons a l => rfl
  show (s ++ Utf8.encode ((folS l).1 : Int)) ++ rstS u = s ++ u
  rw [← hl, ByteArray.append_assoc, enc_rst (h.lo u hm) (h.pos u hm)]
theorem drop_ed (l : List EdP) (j : Nat) (h : j < l.length) : l.drop j = l.getD j ed0 :: l.drop (j + 1) := by
  rw [List.drop_eq_getElem_cons h, List.getD_eq_getElem?_getD, List.getElem?_eq_getElem h]; rfl
def Apart (S T : Nat → Prop) : Prop := ∀ k, S k → ¬ T k
def EachAny (B : Nat) (lo : Tx) (most : Int) (g p1 p2 p3 : Nat) (st : List GN) (ts : List Tx) (f : Nat) : Prop := ∀ (k : Nat) (l : List Tx) (s : Tx) (out : List Tx) (Sg S : Nat → Prop) (w : World), (restsG st)[k]? = some l → OkL f l → GAt g st w Sg → QTs B lo most p1 p2 p3 out w S → Apart Sg S → out.length + l.length ≤ 1000 → s.size + 4 * f ≤ 1000 →
    Calls Try.prog 47 #[.pointer (some ⟨g, 0, none⟩), .int .i64 k, .string s, .func (Fn.func 48) #[] #[.pointer (some ⟨p1, 0, none⟩), .pointer (some ⟨p2, 0, none⟩), .pointer (some ⟨p3, 0, none⟩)]] w fun e w' => e = .returned (.bool (takeL lo most out (l.map (s ++ ·))).2) ∧ PO (QTs B lo most p1 p2 p3 (takeL lo most out (l.map (s ++ ·))).1) w S w'
set_option maxHeartbeats 3200000 in
theorem each_step (B : Nat) (lo : Tx) (most : Int) (g p1 p2 p3 : Nat) (st : List GN) (ts : List Tx) (G : GOk st ts) (f : Nat) (IH : ∀ f', f = f' + 1 → EachAny B lo most g p1 p2 p3 st ts f') : EachAny B lo most g p1 p2 p3 st ts f := by
  intro k l s out Sg S w hR hO hG hQ hA hn hsz
  obtain ⟨hk, hr, hN⟩ := G.node hR
  obtain ⟨q, nc, ea, ec, c0, c1, hT⟩ := hG.edges hA hk
  have i1 : (0 : Int) ≤ (k : Int) := by omega
  have i2 : (k : Int) < (st.length : Int) := by omega
  have hfin := hN.fin
  rw [hr] at hfin
  have hed := hN.ed
  rw [hr] at hed
  obtain ⟨es, hes⟩ : ∃ b, (st.getD k gn0).edges = b := ⟨_, rfl⟩
  rw [hes] at hed hT
  obtain ⟨m, hm⟩ : ∃ m, es.length = m := ⟨_, rfl⟩
  rw [hm] at hT
  obtain ⟨TV, hTV⟩ : ∃ v, takeL lo most out (l.map (s ++ ·)) = v := ⟨_, rfl⟩
  rw [hTV]
  have hm1 : m ≤ 1000 := by have := G.few _ (show st.getD k gn0 ∈ st by rw [List.getD_eq_getElem?_getD, List.getElem?_eq_getElem hk]; simp); rw [hes, hm] at this; omega
  have HT := Lib.hid hT; have HM := Lib.hid hm; have HED := Lib.hid hed; have HTV := Lib.hid hTV; have GH := Lib.hid hG; have AH := Lib.hid hA; have OB := Lib.hid hO.bod; have BP := Lib.hid (bod_pos hO.ord); have QH := Lib.hid hQ; have IHH := Lib.hid IH
  have HN := Lib.hid (show out.length + (bodS l).length ≤ 1000 from by have := bod_len l; omega)
  clear hT hes hm hed hTV hG hA hO hQ IH hN hr hR
  cases hb : finS l with
  | false =>
    rw [hb] at hfin
    rw [hfin] at c1
    have c2 := (HT.out w (Turn.refl _ _)).2.1
    have HTV2 := Lib.hid (show takeL lo most out ((bodS l).map (s ++ ·)) = TV from by rw [← HTV.out]; unfold bodS; rw [hb]; rfl)
    clear hfin hb HTV
    go_enter Try.func47, Try.ntmps47
    go_wp2_with fail
    clear c0 c1 c2
    go_loopw [34] (fun iv wr => ∃ (j : Nat) (l' out' : List Tx) (S' : Nat → Prop), j ≤ m ∧ iv = .int .i64 j ∧ Hid (EdOk (restsG st) l' (es.drop j)) ∧ Hid (OkL f l') ∧ Hid (∀ t ∈ l', 0 < t.size) ∧ Hid (takeL lo most out' (l'.map (s ++ ·)) = TV) ∧ Hid (out'.length + l'.length ≤ 1000) ∧ Hid (QTs B lo most p1 p2 p3 out' wr S') ∧ Hid (∀ k, S' k → S k ∨ w.heap.size ≤ k) ∧ Hid (Turn S w wr)) (fun iv _ => m - (intOf iv).toNat)
    case atStart => exact ⟨0, bodS l, out, S, by omega, rfl, HED, OB, BP, HTV2, HN, QH, Lib.hid (fun k hk => Or.inl hk), Lib.hid (Turn.refl _ _)⟩
    case round =>
      obtain ⟨j, l', out', S', hj, rfl, hE, hO', hP, hV, hL, hQ', hS, hT⟩ := hrel
      by_cases hlt : j < m
      · obtain ⟨d0, d1, d2⟩ := HT.out wr hT.out
        obtain ⟨b, o, rfl, hc⟩ := d2.at (by omega)
        have x0 := hc j hlt
        have hE1 := hE.out
        rw [drop_ed es j (by have := HM.out; omega)] at hE1
        obtain ⟨hne, hr1, ⟨k', hd1, hR1⟩, hE2⟩ := hE1
        obtain ⟨x1, x2⟩ := x0
        rw [hr1] at x1
        rw [hd1] at x2
        obtain ⟨hf1, hf2⟩ := fol_len l' hne
        have hRun : Run l' := ⟨hO'.out.ord, hP.out, hO'.out.lo⟩
        have hmap := fol_map hRun hne s
        obtain ⟨kk, hkk⟩ : ∃ kk, (folS l').2.length = kk := ⟨_, rfl⟩
        rw [hkk] at hE2 hf1 hf2 hmap
        obtain ⟨f', rfl⟩ : ∃ f', f = f' + 1 := by
          cases l' with
          | nil => exact absurd rfl hne
          | cons t l2 =>
            have h1 := rst_len (hO'.out.lo t (by simp)) (hP.out t (by simp))
            have h2 := hO'.out.hi t (by simp)
            exact ⟨f - 1, by omega⟩
        have hof := hO'.out.fol hP.out
        obtain ⟨lb, hlb⟩ : ∃ v, (folS l').1 = v := ⟨_, rfl⟩
        obtain ⟨fl, hfl⟩ : ∃ v, (folS l').2 = v := ⟨_, rfl⟩
        rw [hlb] at x1 hmap
        rw [hfl] at hmap hR1 hof hkk
        have hz4 := encode_size_le (lb : Int)
        have hsz2 : (s ++ Utf8.encode (lb : Int)).size + 4 * f' ≤ 1000 := by rw [ByteArray.size_append]; omega
        have hszm : s.size + (Utf8.encode (lb : Int)).size ≤ 1000 := by omega
        have BE := Lib.hid (below_one wr (.cells #[.int .i32 (lb : Int), .int .i64 (k' : Int)] 61))
        have CE := Lib.hid (IHH.out f' rfl k' fl (s ++ Utf8.encode (lb : Int)) out' Sg S' (wr.alloc (.cells #[.int .i32 (lb : Int), .int .i64 (k' : Int)] 61)) hR1 hof ((gAt_ok g st).below ((gAt_ok g st).turn GH.out hT.out AH.out) BE.out) ((qts_ok B lo most p1 p2 p3 out').below hQ'.out BE.out) (fun q hq hq2 => by
          rcases hS.out q hq2 with h1 | h1
          · exact AH.out q hq h1
          · have := (gAt_ok g st).lt GH.out q hq; omega) (by have := hL.out; omega) hsz2)
        rw [hmap] at CE
        have hV2 := hV.out
        rw [← List.take_append_drop kk l', List.map_append, takeL_app] at hV2
        have hLL := takeL_len lo most ((l'.take kk).map (s ++ ·)) out'
        rw [List.length_map, List.length_take] at hLL
        obtain ⟨RV, hRV⟩ : ∃ v, takeL lo most out' ((l'.take kk).map (s ++ ·)) = v := ⟨_, rfl⟩
        rw [hRV] at hV2 CE hLL
        obtain ⟨ro, rb⟩ := RV
        simp only at hV2 CE hLL
        have V2 := Lib.hid hV2
        have E2 := Lib.hid hE2
        have LL := Lib.hid hLL
        have hTB := Lib.hid (hT.out.trans (Turn.of_below BE.out))
        have hk1 := Lib.hid hf1
        have hk2 := Lib.hid hf2
        have n1 : (0 : Int) ≤ (j : Int) := by omega
        have n2 : (j : Int) < (m : Int) := by omega
        clear hc d0 d1 d2 hr1 hd1 hR1 hE2 hne hRun hmap hkk hof hlb hfl hz4 hsz2 hV2 hLL hRV hf1 hf2
        go_wp2_with fail
        refine CE.out.mono ?_
        rintro e w4 ⟨rfl, S4, q4, s4, t4⟩
        have Q4 := Lib.hid q4
        have S4H := Lib.hid (show ∀ q, S4 q → S q ∨ w.heap.size ≤ q from fun q hq => by
          rcases s4 q hq with h1 | h1
          · exact hS.out q h1
          · have := hT.out.size; have := BE.out.size; exact Or.inr (by omega))
        have T4 := Lib.hid (hTB.out.trans' t4 (fun q hq => hS.out q hq))
        clear q4 s4 t4 CE
        cases rb with
        | true =>
          have V3 := V2.out
          rw [if_pos rfl] at V3
          have V4 := Lib.hid V3
          clear V3 V2
          go_wp2_with fail
          go_roundw
          case rel => exact ⟨j + 1, l'.drop kk, ro, S4, by omega, by go_num, E2, Lib.hid (hO'.out.drop _), Lib.hid (fun t ht => hP.out t (List.mem_of_mem_drop ht)), V4, Lib.hid (by have := LL.out; have := hL.out; have := hk2.out; rw [List.length_drop]; omega), Q4, S4H, T4⟩
          case measure => simp [intOf] <;> omega
        | false =>
          have V3 := V2.out
          rw [if_neg (by simp)] at V3
          subst V3
          go_wp2_with fail
          go_ret
          exact ⟨rfl, S4, Q4.out, S4H.out, T4.out⟩
      · obtain rfl : j = m := by omega
        have hE2 := hE.out
        rw [List.drop_of_length_le (by have := HM.out; omega)] at hE2
        obtain rfl : l' = [] := hE2
        obtain rfl : (out', true) = TV := hV.out
        go_wp2_with fail
        go_ret
        exact ⟨rfl, S', hQ'.out, hS.out, hT.out⟩
  | true =>
    rw [hb] at hfin
    rw [hfin] at c1
    have hhd : l.head? = some (⟨#[]⟩ : ByteArray) := of_decide_eq_true hb
    obtain ⟨o2, ho2⟩ : ∃ v, takeO lo out s = v := ⟨_, rfl⟩
    have hLB : l.map (s ++ ·) = s :: (bodS l).map (s ++ ·) ∧ l.length = (bodS l).length + 1 := by
      unfold bodS
      rw [hb, if_pos rfl]
      cases l with
      | nil => cases hhd
      | cons t l2 =>
        rw [List.head?_cons] at hhd
        injection hhd with hhd
        subst hhd
        refine ⟨?_, rfl⟩
        rw [List.map_cons, List.tail_cons]
        congr 1
        exact ByteArray.append_empty
    have hol : o2.length ≤ out.length + 1 := ho2 ▸ takeO_len lo out s
    have HN2 := Lib.hid (show o2.length + (bodS l).length ≤ 1000 from by have := hLB.2; omega)
    have hTV3 : (if (o2.length : Int) < most then takeL lo most o2 ((bodS l).map (s ++ ·)) else (o2, false)) = TV := by
      rw [← HTV.out, hLB.1, takeL, ho2]
    have CT := Lib.hid (take_any B lo most p1 p2 p3 out s S w QH.out (by omega))
    rw [ho2] at CT
    clear hfin hb HTV hhd hLB hol ho2
    by_cases hmo : (o2.length : Int) < most
    · rw [decide_eq_true hmo] at CT
      rw [if_pos hmo] at hTV3
      have HTV2 := Lib.hid hTV3
      clear hTV3 hmo
      go_enter Try.func47, Try.ntmps47
      go_wp2_with fail
      refine CT.out.mono ?_
      rintro e w1 ⟨rfl, S1, q1, s1, t1⟩
      have Q1 := Lib.hid q1; have S1H := Lib.hid s1; have T1 := Lib.hid t1
      obtain ⟨d0, d1, -⟩ := HT.out w1 t1
      clear q1 s1 t1 CT c0 c1
      go_wp2_with fail
      clear d0 d1
      go_loopw [34] (fun iv wr => ∃ (j : Nat) (l' out' : List Tx) (S' : Nat → Prop), j ≤ m ∧ iv = .int .i64 j ∧ Hid (EdOk (restsG st) l' (es.drop j)) ∧ Hid (OkL f l') ∧ Hid (∀ t ∈ l', 0 < t.size) ∧ Hid (takeL lo most out' (l'.map (s ++ ·)) = TV) ∧ Hid (out'.length + l'.length ≤ 1000) ∧ Hid (QTs B lo most p1 p2 p3 out' wr S') ∧ Hid (∀ k, S' k → S k ∨ w.heap.size ≤ k) ∧ Hid (Turn S w wr)) (fun iv _ => m - (intOf iv).toNat)
      case atStart => exact ⟨0, bodS l, o2, S1, by omega, rfl, HED, OB, BP, HTV2, HN2, Q1, S1H, T1⟩
      case round =>
        obtain ⟨j, l', out', S', hj, rfl, hE, hO', hP, hV, hL, hQ', hS, hT⟩ := hrel
        by_cases hlt : j < m
        · obtain ⟨d0, d1, d2⟩ := HT.out wr hT.out
          obtain ⟨b, o, rfl, hc⟩ := d2.at (by omega)
          have x0 := hc j hlt
          have hE1 := hE.out
          rw [drop_ed es j (by have := HM.out; omega)] at hE1
          obtain ⟨hne, hr1, ⟨k', hd1, hR1⟩, hE2⟩ := hE1
          obtain ⟨x1, x2⟩ := x0
          rw [hr1] at x1
          rw [hd1] at x2
          obtain ⟨hf1, hf2⟩ := fol_len l' hne
          have hRun : Run l' := ⟨hO'.out.ord, hP.out, hO'.out.lo⟩
          have hmap := fol_map hRun hne s
          obtain ⟨kk, hkk⟩ : ∃ kk, (folS l').2.length = kk := ⟨_, rfl⟩
          rw [hkk] at hE2 hf1 hf2 hmap
          obtain ⟨f', rfl⟩ : ∃ f', f = f' + 1 := by
            cases l' with
            | nil => exact absurd rfl hne
            | cons t l2 =>
              have h1 := rst_len (hO'.out.lo t (by simp)) (hP.out t (by simp))
              have h2 := hO'.out.hi t (by simp)
              exact ⟨f - 1, by omega⟩
          have hof := hO'.out.fol hP.out
          obtain ⟨lb, hlb⟩ : ∃ v, (folS l').1 = v := ⟨_, rfl⟩
          obtain ⟨fl, hfl⟩ : ∃ v, (folS l').2 = v := ⟨_, rfl⟩
          rw [hlb] at x1 hmap
          rw [hfl] at hmap hR1 hof hkk
          have hz4 := encode_size_le (lb : Int)
          have hsz2 : (s ++ Utf8.encode (lb : Int)).size + 4 * f' ≤ 1000 := by rw [ByteArray.size_append]; omega
          have hszm : s.size + (Utf8.encode (lb : Int)).size ≤ 1000 := by omega
          have BE := Lib.hid (below_one wr (.cells #[.int .i32 (lb : Int), .int .i64 (k' : Int)] 61))
          have CE := Lib.hid (IHH.out f' rfl k' fl (s ++ Utf8.encode (lb : Int)) out' Sg S' (wr.alloc (.cells #[.int .i32 (lb : Int), .int .i64 (k' : Int)] 61)) hR1 hof ((gAt_ok g st).below ((gAt_ok g st).turn GH.out hT.out AH.out) BE.out) ((qts_ok B lo most p1 p2 p3 out').below hQ'.out BE.out) (fun q hq hq2 => by
            rcases hS.out q hq2 with h1 | h1
            · exact AH.out q hq h1
            · have := (gAt_ok g st).lt GH.out q hq; omega) (by have := hL.out; omega) hsz2)
          rw [hmap] at CE
          have hV2 := hV.out
          rw [← List.take_append_drop kk l', List.map_append, takeL_app] at hV2
          have hLL := takeL_len lo most ((l'.take kk).map (s ++ ·)) out'
          rw [List.length_map, List.length_take] at hLL
          obtain ⟨RV, hRV⟩ : ∃ v, takeL lo most out' ((l'.take kk).map (s ++ ·)) = v := ⟨_, rfl⟩
          rw [hRV] at hV2 CE hLL
          obtain ⟨ro, rb⟩ := RV
          simp only at hV2 CE hLL
          have V2 := Lib.hid hV2
          have E2 := Lib.hid hE2
          have LL := Lib.hid hLL
          have hTB := Lib.hid (hT.out.trans (Turn.of_below BE.out))
          have hk1 := Lib.hid hf1
          have hk2 := Lib.hid hf2
          have n1 : (0 : Int) ≤ (j : Int) := by omega
          have n2 : (j : Int) < (m : Int) := by omega
          clear hc d0 d1 d2 hr1 hd1 hR1 hE2 hne hRun hmap hkk hof hlb hfl hz4 hsz2 hV2 hLL hRV hf1 hf2
          go_wp2_with fail
          refine CE.out.mono ?_
          rintro e w4 ⟨rfl, S4, q4, s4, t4⟩
          have Q4 := Lib.hid q4
          have S4H := Lib.hid (show ∀ q, S4 q → S q ∨ w.heap.size ≤ q from fun q hq => by
            rcases s4 q hq with h1 | h1
            · exact hS.out q h1
            · have := hT.out.size; have := BE.out.size; exact Or.inr (by omega))
          have T4 := Lib.hid (hTB.out.trans' t4 (fun q hq => hS.out q hq))
          clear q4 s4 t4 CE
          cases rb with
          | true =>
            have V3 := V2.out
            rw [if_pos rfl] at V3
            have V4 := Lib.hid V3
            clear V3 V2
            go_wp2_with fail
            go_roundw
            case rel => exact ⟨j + 1, l'.drop kk, ro, S4, by omega, by go_num, E2, Lib.hid (hO'.out.drop _), Lib.hid (fun t ht => hP.out t (List.mem_of_mem_drop ht)), V4, Lib.hid (by have := LL.out; have := hL.out; have := hk2.out; rw [List.length_drop]; omega), Q4, S4H, T4⟩
            case measure => simp [intOf] <;> omega
          | false =>
            have V3 := V2.out
            rw [if_neg (by simp)] at V3
            subst V3
            go_wp2_with fail
            go_ret
            exact ⟨rfl, S4, Q4.out, S4H.out, T4.out⟩
        · obtain rfl : j = m := by omega
          have hE2 := hE.out
          rw [List.drop_of_length_le (by have := HM.out; omega)] at hE2
          obtain rfl : l' = [] := hE2
          obtain rfl : (out', true) = TV := hV.out
          go_wp2_with fail
          go_ret
          exact ⟨rfl, S', hQ'.out, hS.out, hT.out⟩
    · rw [decide_eq_false hmo] at CT
      rw [if_neg hmo] at hTV3
      subst hTV3
      clear hmo
      go_enter Try.func47, Try.ntmps47
      go_wp2_with fail
      refine CT.out.mono ?_
      rintro e w1 ⟨rfl, hpo⟩
      go_wp2_with fail
      go_ret
      exact ⟨rfl, hpo⟩
theorem each_any (B : Nat) (lo : Tx) (most : Int) (g p1 p2 p3 : Nat) (st : List GN) (ts : List Tx) (G : GOk st ts) : ∀ f, EachAny B lo most g p1 p2 p3 st ts f := by
  intro f
  induction f with
  | zero => exact each_step B lo most g p1 p2 p3 st ts G 0 (fun f' e => by omega)
  | succ f ih => exact each_step B lo most g p1 p2 p3 st ts G (f + 1) (fun f' e => by
      obtain rfl : f = f' := by omega
      exact ih)
end Go.Proofs.Ytmmliepkcgdnlaa
/- graph: From, Words -/
namespace Go.Proofs.Ytmmliepkcgdnlaa
open Go.RowKit
set_option linter.unusedVariables false
set_option maxRecDepth 20000
def fromL (ts : List Tx) (lo : Tx) (most : Int) : List Tx := (ts.filter (fun t => !decide (cmpS t lo < 0))).take most.toNat
theorem takeL_from (lo : Tx) (most : Int) : ∀ (ts out : List Tx), (out.length : Int) < most → (takeL lo most out ts).1 = out ++ (ts.filter (fun t => !decide (cmpS t lo < 0))).take (most - out.length).toNat
  | [], out, _ => by simp [takeL]
  | x :: l, out, h => by
    rw [takeL]
    by_cases hc : cmpS x lo < 0
    · have e : takeO lo out x = out := if_pos hc
      rw [e, if_pos h, takeL_from lo most l out h, List.filter_cons_of_neg (by simpa using hc)]
    · have e : takeO lo out x = out ++ [x] := if_neg hc
      have hl : (out ++ [x]).length = out.length + 1 := by simp
      rw [e, List.filter_cons_of_pos (by simpa using hc), show (most - (out.length : Int)).toNat = (most - ((out.length : Int) + 1)).toNat + 1 by omega, List.take_succ_cons]
      by_cases hm : ((out ++ [x]).length : Int) < most
      · rw [if_pos hm, takeL_from lo most l (out ++ [x]) hm, hl, List.append_assoc]
        simp
      · rw [if_neg hm]
        rw [hl] at hm
        rw [show (most - ((out.length : Int) + 1)).toNat = 0 by omega]
        simp
theorem from_takeL (ts : List Tx) (lo : Tx) (most : Int) (h : 1 ≤ most) : (takeL lo most [] (ts.map (fun x => (⟨#[]⟩ : ByteArray) ++ x))).1 = fromL ts lo most := by
  have e : ts.map (fun x => (⟨#[]⟩ : ByteArray) ++ x) = ts := by
    conv => rhs; rw [← List.map_id ts]
    exact List.map_congr_left fun a _ => ByteArray.empty_append
  rw [e, takeL_from lo most ts [] (by simp; omega)]
  simp [fromL]
def RetTx (w : World) (ts : List Tx) (e : Ending) (w' : World) : Prop := ∃ a c, e = .returned (.slice a ts.length c) ∧ w'.ownsRow w.heap.size 9 1 (.slice a ts.length c) ts.length (strsV ts) ∧ Below w.heap.size w w'
theorem qt_start (w : World) (lo : Tx) (most : Int) (t1 t2 t3 : TypeId) : QTs w.heap.size lo most w.heap.size (w.heap.size + 1 + 1) (w.heap.size + 1) [] (((w.alloc (Obj.cells #[Value.string lo] t1)).alloc (Obj.cells #[Value.int IntKind.i64 most] t2)).alloc (Obj.cells #[Value.slice none 0 0] t3)) (fun k => w.heap.size ≤ k ∧ k < w.heap.size + 3) := by
  have hb := Below.heap_alloc ((w.alloc (Obj.cells #[Value.string lo] t1)).alloc (Obj.cells #[Value.int IntKind.i64 most] t2)) (Obj.cells #[Value.slice none 0 0] t3)
  have hc := Below.heap_alloc (w.alloc (Obj.cells #[Value.string lo] t1)) (Obj.cells #[Value.int IntKind.i64 most] t2)
  have b0 := (hb w.heap.size (by simp; omega)).trans (hc w.heap.size (by simp))
  have b1 := hb (w.heap.size + 1) (by simp)
  refine ⟨none, 0, ⟨?_, ?_, ?_, fun i => ?_, World.ownsRow_nil _ _ _ _, ⟨by omega, by omega⟩, ⟨by omega, by omega⟩, ⟨by omega, by omega⟩, by omega, by omega, fun q hq => by (cases hq), fun k hk => ?_, ?_⟩⟩
  · rw [World.cell?_of_block (w := w.alloc (Obj.cells #[Value.string lo] t1)) b0, World.cell?_alloc_at _ _ _ _ rfl]; rfl
  · rw [World.cell?_alloc_at _ _ _ _ (by simp)]; rfl
  · rw [World.cell?_of_block (w := (w.alloc (Obj.cells #[Value.string lo] t1)).alloc (Obj.cells #[Value.int IntKind.i64 most] t2)) b1, World.cell?_alloc_at _ _ _ _ (by simp)]; rfl
  · rw [World.frozen?_alloc_at _ _ _ _ (by simp)]
  · simp; omega
  · simp; omega
set_option maxHeartbeats 1600000 in
theorem gFrom_any (g : Nat) (st : List GN) (ts : List Tx) (G : GOk st ts) (S : Nat → Prop) (lo : Tx) (most : Int) (w : World) (h : GAt g st w S) : Calls Try.prog 28 #[.pointer (some ⟨g, 0, none⟩), .string lo, .int .i64 most] w (RetTx w (fromL ts lo most)) := by
  obtain ⟨h00, hr0, hN0⟩ := G.node G.root
  have hb : hasG st 0 = true := decide_eq_true (by omega)
  have CH := Lib.hid (fun w (h : GAt g st w S) => gHas_any g st S 0 w h)
  rw [hb] at CH
  have GH := Lib.hid h
  have AB := Lib.hid (fun (t1 t2 t3 : TypeId) => show Below w.heap.size w (((w.alloc (Obj.cells #[Value.string lo] t1)).alloc (Obj.cells #[Value.int IntKind.i64 most] t2)).alloc (Obj.cells #[Value.slice none 0 0] t3)) from (below_one _ _).trans (((below_one _ _).mono (by simp)).trans ((below_one _ _).mono (by simp; omega))))
  clear hb
  by_cases hm : most < 1
  · have e : fromL ts lo most = [] := by unfold fromL; rw [show most.toNat = 0 by omega]; rfl
    have d1 : decide (most < 1) = true := decide_eq_true hm
    rw [e]
    clear e
    go_enter Try.func28, Try.ntmps28
    go_wp2_with fail
    refine (CH.out _ ((gAt_ok g st).below GH.out (AB.out _ _ _))).mono ?_
    rintro e w1 ⟨rfl, rfl⟩
    go_wp2_with fail
    go_ret
    exact ⟨none, 0, rfl, World.ownsRow_nil _ _ _ _, AB.out _ _ _⟩
  · have hm1 : 1 ≤ most := by omega
    have d1 : decide (most < 1) = false := decide_eq_false hm
    have hLt := (gAt_ok g st).lt h
    have CE := Lib.hid (fun (t1 t2 t3 : TypeId) => each_any w.heap.size lo most g w.heap.size (w.heap.size + 1 + 1) (w.heap.size + 1) st ts G 12 0 ts ⟨#[]⟩ [] S (fun k => w.heap.size ≤ k ∧ k < w.heap.size + 3) _ G.root (hr0 ▸ hN0.ok) ((gAt_ok g st).below h (AB.out t1 t2 t3)) (qt_start w lo most t1 t2 t3) (fun k hk hk2 => by have := hLt k hk; omega) (by have := hN0.ok.n; rw [hr0] at this; simp only [List.length_nil]; omega) (by simp [ByteArray.size]))
    rw [from_takeL ts lo most hm1] at CE
    clear h hLt hN0 hr0
    go_enter Try.func28, Try.ntmps28
    go_wp2_with fail
    refine (CH.out _ ((gAt_ok g st).below GH.out (AB.out _ _ _))).mono ?_
    rintro e w1 ⟨rfl, rfl⟩
    go_wp2_with fail
    refine (CE.out _ _ _).mono ?_
    rintro e w2 ⟨rfl, S2, ⟨oa, oc, q2⟩, s2, t2⟩
    have c2 := q2.c2
    have HB := Lib.hid ((AB.out _ _ _).trans (t2.below (fun k hk => hk.1) (by simp; omega)))
    have Q2 := Lib.hid q2
    clear q2 s2 t2 CE
    go_wp2_with fail
    go_ret
    exact ⟨oa, oc, rfl, Q2.out.o, HB.out⟩
theorem gWords_any (g : Nat) (st : List GN) (ts : List Tx) (G : GOk st ts) (S : Nat → Prop) (w : World) (h : GAt g st w S) : Calls Try.prog 32 #[.pointer (some ⟨g, 0, none⟩)] w (RetTx w (fromL ts ⟨#[]⟩ 60)) := by
  have CH := Lib.hid (gFrom_any g st ts G S ⟨#[]⟩ 60 w h)
  go_enter Try.func32, Try.ntmps32
  go_wp2_with fail
  refine CH.out.mono ?_
  rintro e w1 ⟨a, c, rfl, ho, hb⟩
  go_wp2_with fail
  go_ret
  exact ⟨a, c, rfl, ho, hb⟩
theorem words_all {ts : List Tx} (h : ts.length ≤ 60) : fromL ts ⟨#[]⟩ 60 = ts := by
  unfold fromL
  have e : ts.filter (fun t => !decide (cmpS t (⟨#[]⟩ : ByteArray) < 0)) = ts := List.filter_eq_self.2 (fun t _ => by simpa using cmp_empty t)
  rw [e]
  exact List.take_of_length_le (by simpa using h)
end Go.Proofs.Ytmmliepkcgdnlaa
/- graph: from a text on, in pieces: plain -/
namespace Go.Proofs.Ytmmliepkcgdnlaa
open Go.RowKit
set_option linter.unusedVariables false
set_option maxRecDepth 20000
def onS (ts : List Tx) (lo : Tx) : List Tx := ts.filter (fun t => !decide (cmpS t lo < 0))
theorem fromL_on (ts : List Tx) (lo : Tx) (most : Int) : fromL ts lo most = (onS ts lo).take most.toNat := rfl
theorem onS_len (ts : List Tx) (lo : Tx) : (onS ts lo).length ≤ ts.length := List.length_filter_le _ _
theorem onS_sorted {ts : List Tx} (h : SortedS ts) (lo : Tx) : SortedS (onS ts lo) := List.Pairwise.sublist List.filter_sublist h
theorem on_last {ts : List Tx} (h : SortedS ts) (lo : Tx) (i : Nat) (hi : i < (onS ts lo).length) : onS ts ((onS ts lo).getD i ByteArray.empty) = (onS ts lo).drop i := by
  obtain ⟨F, hF⟩ : ∃ F, onS ts lo = F := ⟨_, rfl⟩
  have hs := onS_sorted h lo
  rw [hF] at hi hs ⊢
  have hm : F.getD i ByteArray.empty ∈ F := getD_tx hi
  have hge : ¬ cmpS (F.getD i ByteArray.empty) lo < 0 := by
    rw [← hF] at hm ⊢
    have := (List.mem_filter.1 hm).2
    simpa using this
  obtain ⟨y, hy⟩ : ∃ y, F.getD i ByteArray.empty = y := ⟨_, rfl⟩
  rw [hy] at hge ⊢
  have e1 : onS ts y = F.filter (fun t => !decide (cmpS t y < 0)) := by
    rw [← hF]
    unfold onS
    rw [List.filter_filter]
    refine List.filter_congr fun t ht => ?_
    by_cases h1 : cmpS t y < 0
    · simp [h1]
    · have h2 : ¬ cmpS t lo < 0 := fun h2 => by
        have h3 : cmpS lo y < 0 ∨ lo = y := by
          rcases cmpS_bd y lo with e | e | e
          · omega
          · exact Or.inr (cmpS_zero.1 e).symm
          · left; rw [cmpS_swap]; omega
        rcases h3 with h3 | h3
        · exact h1 (cmpS_trans h2 h3)
        · exact h1 (h3 ▸ h2)
      simp [h1, h2]
  rw [e1]
  conv => lhs; rw [← List.take_append_drop i F]
  rw [List.filter_append]
  have d0 : F.drop i = y :: F.drop (i + 1) := by
    rw [List.drop_eq_getElem_cons hi, ← hy, List.getD_eq_getElem?_getD, List.getElem?_eq_getElem hi]; rfl
  have hp : SortedS (F.take i ++ F.drop i) := by rw [List.take_append_drop]; exact hs
  obtain ⟨-, hp2, hp3⟩ := List.pairwise_append.1 hp
  have e2 : (F.take i).filter (fun t => !decide (cmpS t y < 0)) = [] := by
    refine List.filter_eq_nil_iff.2 fun t ht => ?_
    have := hp3 t ht y (by rw [d0]; simp)
    simp [this]
  have e3 : (F.drop i).filter (fun t => !decide (cmpS t y < 0)) = F.drop i := by
    refine List.filter_eq_self.2 fun t ht => ?_
    rw [d0] at ht hp2
    rcases List.mem_cons.1 ht with rfl | ht
    · simp [cmpS_irrefl]
    · have := cmpS_asymm ((List.pairwise_cons.1 hp2).1 t ht)
      simpa using this
  rw [e2, e3, List.nil_append]
end Go.Proofs.Ytmmliepkcgdnlaa
/- a number, from 0 to below n -/
namespace Go.Proofs.Ytmmliepkcgdnlaa
open Go.RowKit
set_option linter.unusedVariables false
set_option maxRecDepth 20000
def lowV (x n : Int) : Int := IntKind.u64.wrap x % n
theorem low_bd (x n : Int) (h : 0 < n) : 0 ≤ lowV x n ∧ lowV x n < n := ⟨Int.emod_nonneg _ (by omega), Int.emod_lt_of_pos _ h⟩
theorem u64_in (n : Int) (h : 0 ≤ n) (h2 : n < 18446744073709551616) : IntKind.u64.wrap n = n := by
  simp only [IntKind.wrap, IntKind.signed, IntKind.bits]; simp; omega
theorem u64_bdL (d : Int) : 0 ≤ IntKind.u64.wrap d ∧ IntKind.u64.wrap d < 18446744073709551616 := by
  simp only [IntKind.wrap, IntKind.signed, IntKind.bits]; simp; omega
theorem low_any (x n : Int) (h : 1 ≤ n) (h2 : n < 4611686018427387904) (w : World) :
    Calls Try.prog 34 #[.int .i64 x, .int .i64 n] w fun e w' => e = .returned (.int .i64 (lowV x n)) ∧ w = w' := by
  have hb := low_bd x n (by omega)
  have hw := u64_in n (by omega) (by omega)
  have hx := u64_bdL x
  go_enter Try.func34, Try.ntmps34
  go_wp2
  go_ret
  exact ⟨ret_int (by unfold lowV at *; rw [IntWalk.wrap64_in _ ⟨by omega, by omega⟩]), rfl⟩
end Go.Proofs.Ytmmliepkcgdnlaa
