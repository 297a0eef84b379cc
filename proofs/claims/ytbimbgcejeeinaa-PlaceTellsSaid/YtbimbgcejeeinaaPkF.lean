/- texts joined -/
import Derived.Test.YtbimbgcejeeinaaPkD
import Derived.Test.YtbimbgcejeeinaaPkE
import Derived.Test.YtbimbgcejeeinaaChecked
import Derived.Test.YtbimbgcejeeinaaPkA
import Derived.WalkLawsBesides
import Derived.Outline
import Derived.Deep.QuietTactic
import Derived.BigQuiet
import Derived.Deep.AppendLies
import Derived.Test.YtbimbgcejeeinaaPkB
/- a rune written and what is behind it: the text -/
namespace Go.Proofs.Ytbimbgcejeeinaa
open Go.RowKit
set_option linter.unusedVariables false
set_option maxRecDepth 20000
theorem ue_decodeN_good (n b0 b1 b2 b3 : Nat) (hg : (Lib.decodeN n b0 b1 b2 b3).1 ≠ 65533) (h0 : b0 < 256) :
    ((Lib.decodeN n b0 b1 b2 b3).1 < 55296 ∨ 57343 < (Lib.decodeN n b0 b1 b2 b3).1) ∧ (Lib.decodeN n b0 b1 b2 b3).1 ≤ 1114111 := by
  unfold Lib.decodeN at *
  by_cases k0 : b0 < 128
  · rw [if_pos k0]; exact ⟨Or.inl (show b0 < 55296 by omega), (show b0 ≤ 1114111 by omega)⟩
  rw [if_neg k0] at hg ⊢
  by_cases k1 : b0 / 32 = 6 ∧ 1 < n ∧ b1 / 64 = 2
  · rw [if_pos k1] at hg ⊢
    by_cases h : b0 % 32 * 64 + b1 % 64 ≥ 128
    · rw [if_pos h]; exact ⟨Or.inl (show b0 % 32 * 64 + b1 % 64 < 55296 by omega), (show b0 % 32 * 64 + b1 % 64 ≤ 1114111 by omega)⟩
    · rw [if_neg h] at hg; exact absurd rfl hg
  rw [if_neg k1] at hg ⊢
  by_cases k2 : b0 / 16 = 14 ∧ (1 < n ∧ b1 / 64 = 2) ∧ 2 < n ∧ b2 / 64 = 2
  · rw [if_pos k2] at hg ⊢
    by_cases h : b0 % 16 * 4096 + b1 % 64 * 64 + b2 % 64 ≥ 2048 ∧ (b0 % 16 * 4096 + b1 % 64 * 64 + b2 % 64 < 55296 ∨ (57344 ≤ b0 % 16 * 4096 + b1 % 64 * 64 + b2 % 64 ∧ b0 % 16 * 4096 + b1 % 64 * 64 + b2 % 64 ≤ 1114111))
    · rw [if_pos h]
      refine ⟨?_, show b0 % 16 * 4096 + b1 % 64 * 64 + b2 % 64 ≤ 1114111 by omega⟩
      show b0 % 16 * 4096 + b1 % 64 * 64 + b2 % 64 < 55296 ∨ 57343 < b0 % 16 * 4096 + b1 % 64 * 64 + b2 % 64
      omega
    · rw [if_neg h] at hg; exact absurd rfl hg
  rw [if_neg k2] at hg ⊢
  by_cases k3 : b0 / 8 = 30 ∧ (1 < n ∧ b1 / 64 = 2) ∧ (2 < n ∧ b2 / 64 = 2) ∧ 3 < n ∧ b3 / 64 = 2
  · rw [if_pos k3] at hg ⊢
    by_cases h : b0 % 8 * 262144 + b1 % 64 * 4096 + b2 % 64 * 64 + b3 % 64 ≥ 65536 ∧ (b0 % 8 * 262144 + b1 % 64 * 4096 + b2 % 64 * 64 + b3 % 64 < 55296 ∨ (57344 ≤ b0 % 8 * 262144 + b1 % 64 * 4096 + b2 % 64 * 64 + b3 % 64 ∧ b0 % 8 * 262144 + b1 % 64 * 4096 + b2 % 64 * 64 + b3 % 64 ≤ 1114111))
    · rw [if_pos h]
      refine ⟨?_, show b0 % 8 * 262144 + b1 % 64 * 4096 + b2 % 64 * 64 + b3 % 64 ≤ 1114111 by omega⟩
      show b0 % 8 * 262144 + b1 % 64 * 4096 + b2 % 64 * 64 + b3 % 64 < 55296 ∨ 57343 < b0 % 8 * 262144 + b1 % 64 * 4096 + b2 % 64 * 64 + b3 % 64
      omega
    · rw [if_neg h] at hg; exact absurd rfl hg
  rw [if_neg k3] at hg
  exact absurd rfl hg
theorem ue_drop_byte (s : ByteArray) (j : Nat) (h : j < s.size) : s.toList.drop j = UInt8.ofNat (byteS s j) :: s.toList.drop (j + 1) := by
  obtain ⟨c, h1, h2⟩ := drop_at s j h
  rw [h1, ← h2, UInt8.ofNat_toNat]
theorem ue_bytes_list (s : ByteArray) (pos w : Nat) (h : pos + w ≤ s.size) (h1 : 1 ≤ w) (h4 : w ≤ 4) :
    (s.toList.drop pos).take w = ([byteS s pos, byteS s (pos + 1), byteS s (pos + 2), byteS s (pos + 3)].take w).map UInt8.ofNat := by
  have hw : w = 1 ∨ w = 2 ∨ w = 3 ∨ w = 4 := by omega
  rcases hw with rfl | rfl | rfl | rfl
  · rw [ue_drop_byte s pos (by omega)]; rfl
  · rw [ue_drop_byte s pos (by omega), ue_drop_byte s (pos + 1) (by omega)]; rfl
  · rw [ue_drop_byte s pos (by omega), ue_drop_byte s (pos + 1) (by omega), ue_drop_byte s (pos + 1 + 1) (by omega)]; rfl
  · rw [ue_drop_byte s pos (by omega), ue_drop_byte s (pos + 1) (by omega), ue_drop_byte s (pos + 1 + 1) (by omega), ue_drop_byte s (pos + 1 + 1 + 1) (by omega)]; rfl
theorem ue_enc_width {r w b0 b1 b2 b3 : Nat} (h : Enc r w b0 b1 b2 b3) : 1 ≤ w ∧ w ≤ 4 ∧ r ≤ 1114111 := by unfold Enc at h; omega
/-- a rune read well: its bytes -/
theorem ue_read_well (s : ByteArray) (pos : Nat) (h : pos < s.size) (hg : (Utf8.decode s pos).1 ≠ 65533) :
    Enc (Utf8.decode s pos).1 (Utf8.decode s pos).2 (byteS s pos) (byteS s (pos + 1)) (byteS s (pos + 2)) (byteS s (pos + 3)) ∧ ((Utf8.decode s pos).1 < 55296 ∨ 57343 < (Utf8.decode s pos).1) := by
  rw [decode_bytes] at hg ⊢
  exact ⟨decodeN_enc _ _ _ _ _ (byteS_lt _ _) hg, (ue_decodeN_good _ _ _ _ _ hg (byteS_lt _ _)).1⟩
theorem encode_enc (r w b0 b1 b2 b3 : Nat) (h : Enc r w b0 b1 b2 b3) (hs : r < 55296 ∨ 57343 < r) : (Utf8.encode (r : Int)).data.toList = ([b0, b1, b2, b3].take w).map UInt8.ofNat := by
  have hr : r ≤ 1114111 := (ue_enc_width h).2.2
  have hv : Utf8.valid (r : Int) = true := by
    unfold Utf8.valid
    simp only [Bool.or_eq_true, Bool.and_eq_true, decide_eq_true_eq]
    omega
  unfold Utf8.encode
  rw [if_pos hv]
  simp only [Int.toNat_natCast]
  rcases h with ⟨rfl, rfl, h⟩ | ⟨rfl, h0, h1, h2, h3⟩ | ⟨rfl, h0, h1, h2, h3, h4⟩ | ⟨rfl, h0, h1, h2, h3, h4, h5⟩
  · rw [if_pos (by omega)]; rfl
  · rw [if_neg (by omega), if_pos (by omega), h0, h1]; rfl
  · rw [if_neg (by omega), if_neg (by omega), if_pos (by omega), h0, h1, h2]; rfl
  · rw [if_neg (by omega), if_neg (by omega), if_neg (by omega), h0, h1, h2, h3]; rfl
theorem enc_rst {t : Tx} (h : 0 ≤ lenS t) (h0 : 0 < t.size) : Utf8.encode (labS t : Int) ++ rstS t = t := by
  obtain ⟨h1, h2, -⟩ := good_first h h0
  obtain ⟨e1, e2⟩ := ue_read_well t 0 h0 h1
  have hw := ue_enc_width e1
  have hx : Utf8.encode (labS t : Int) = t.extract 0 (Utf8.decode t 0).2 := by
    have hb := ue_bytes_list t 0 _ (by omega) hw.1 hw.2.1
    have he := encode_enc _ _ _ _ _ _ e1 e2
    rw [← hb, List.drop_zero, ByteArray.toList_eq] at he
    have hl : labS t = (Utf8.decode t 0).1 := rfl
    rw [hl]
    apply tx_ext
    rw [he]
    have hz := (extract_size t (Utf8.decode t 0).2 h2).1
    have hj : (t.extract 0 (Utf8.decode t 0).2 ++ rstS t).data.toList = t.data.toList := by rw [rst_split h h0]
    rw [show ∀ a b : ByteArray, (a ++ b).data.toList = a.data.toList ++ b.data.toList from fun a b => by simp] at hj
    rw [← hj]
    have hn : (t.extract 0 (Utf8.decode t 0).2).data.toList.length = (Utf8.decode t 0).2 := by rw [Array.length_toList]; exact hz
    exact List.take_left' hn
  rw [hx]
  exact rst_split h h0
end Go.Proofs.Ytbimbgcejeeinaa
/- graph: the text of one rune -/
namespace Go.Proofs.Ytbimbgcejeeinaa
open Go.RowKit
set_option linter.unusedVariables false
set_option maxRecDepth 20000
theorem ue_encode_list (r w b0 b1 b2 b3 : Nat) (h : Enc r w b0 b1 b2 b3) (hs : r < 55296 ∨ 57343 < r) : Lib.encodeRune (r : Int) = ([b0, b1, b2, b3].take w).map UInt8.ofNat := by
  unfold Lib.encodeRune
  rcases h with ⟨rfl, rfl, h⟩ | ⟨rfl, h0, h1, h2, h3⟩ | ⟨rfl, h0, h1, h2, h3, h4⟩ | ⟨rfl, h0, h1, h2, h3, h4, h5⟩
  · rw [Lib.encodeRuneZ_one (by omega) (by omega)]; rfl
  · rw [Lib.encodeRuneZ_two (by omega) (by omega)]
    have e0 : (192 + (r : Int) / 64).toNat = b0 := by omega
    have e1 : (128 + (r : Int) % 64).toNat = b1 := by omega
    simp only [List.map, e0, e1, List.take]
  · rw [Lib.encodeRuneZ_three (by omega)]
    have e0 : (224 + (r : Int) / 4096).toNat = b0 := by omega
    have e1 : (128 + (r : Int) / 64 % 64).toNat = b1 := by omega
    have e2 : (128 + (r : Int) % 64).toNat = b2 := by omega
    simp only [List.map, e0, e1, e2, List.take]
  · rw [Lib.encodeRuneZ_four (by omega) (by omega)]
    have e0 : (240 + (r : Int) / 262144).toNat = b0 := by omega
    have e1 : (128 + (r : Int) / 4096 % 64).toNat = b1 := by omega
    have e2 : (128 + (r : Int) / 64 % 64).toNat = b2 := by omega
    have e3 : (128 + (r : Int) % 64).toNat = b3 := by omega
    simp only [List.map, e0, e1, e2, e3, List.take]
/-- a first rune's text, and what is behind it -/
theorem text_rst {t : Tx} (h : 0 ≤ lenS t) (h0 : 0 < t.size) : textZ [(labS t : Int)] ++ rstS t = t := by
  obtain ⟨h1, h2, -⟩ := good_first h h0
  obtain ⟨e1, e2⟩ := ue_read_well t 0 h0 h1
  have hw := ue_enc_width e1
  have hl : labS t = (Utf8.decode t 0).1 := rfl
  have hg : allG [(labS t : Int)] := by
    intro z hz
    simp only [List.mem_singleton] at hz
    subst hz
    rw [hl]
    unfold goodP
    omega
  rw [(textZ_good hg).1]
  have he : encB [(labS t : Int)] = Utf8.encode (labS t : Int) := by
    rw [hl]
    apply tx_ext
    rw [encode_enc _ _ _ _ _ _ e1 e2, ← ue_encode_list _ _ _ _ _ _ e1 e2]
    simp [encB, encL]
  rw [he]
  exact enc_rst h h0
end Go.Proofs.Ytbimbgcejeeinaa
/- pack: the words that an image's nodes tell (plain) -/
namespace Go.Proofs.Ytbimbgcejeeinaa
open Go.RowKit
set_option linter.unusedVariables false
set_option maxRecDepth 20000
theorem lab_good {t : Tx} (h : 0 ≤ lenS t) (h0 : 0 < t.size) : allG [(labS t : Int)] := by
  obtain ⟨h1, h2, -⟩ := good_first h h0
  obtain ⟨e1, e2⟩ := ue_read_well t 0 h0 h1
  have hw := ue_enc_width e1
  have hl : labS t = (Utf8.decode t 0).1 := rfl
  intro z hz
  simp only [List.mem_singleton] at hz
  subst hz
  rw [hl]
  unfold goodP
  omega
theorem fol_lab9 {m : List Tx} (h : Run m) (h0 : m ≠ []) : allG [((folS m).1 : Int)] ∧ (folS m).1 ≤ 1114111 := by
  cases m with
  | nil => exact absurd rfl h0
  | cons t m =>
    have h1 : allG [((folS (t :: m)).1 : Int)] := lab_good (h.lo t (by simp)) (h.pos t (by simp))
    have h2 := h1 _ (List.mem_singleton.2 rfl)
    unfold goodP at h2
    exact ⟨h1, by omega⟩
theorem fol_map9 {l : List Tx} (h : Run l) (h0 : l ≠ []) (s : Tx) : (folS l).2.map (fun x => (s ++ textZ [((folS l).1 : Int)]) ++ x) = (l.take (folS l).2.length).map (fun x => s ++ x) := by
  obtain ⟨k, hk, h1, h2⟩ := fol_split h0
  rw [← hk, h2, List.map_map]
  refine List.map_congr_left fun u hu => ?_
  have hm : u ∈ l := List.mem_of_mem_take hu
  have hl : labS u = (folS l).1 := by
    rw [h1] at hu
    have h3 := mem_tw (p := fun t => decide (labS t = labS (l.getD 0 ByteArray.empty))) hu
    rw [show labS u = labS (l.getD 0 ByteArray.empty) from of_decide_eq_true h3]
    cases l with
    | nil => exact absurd rfl h0
    | cons a l => rfl
  show (s ++ textZ [((folS l).1 : Int)]) ++ rstS u = s ++ u
  rw [← hl, ByteArray.append_assoc, text_rst (h.lo u hm) (h.pos u hm)]
theorem bitsV_nat9 (n : Nat) (h : n < 9223372036854775808) : bitsV (n : Int) = n := by
  have := bitsV_eq (n : Int)
  simp only [IntKind.wrap, IntKind.signed, IntKind.bits] at this
  simp at this
  omega
theorem edP_ok {e : EdP} {x k : Nat} (h1 : e.r = (x : Int)) (hx : x ≤ 1114111) (h2 : e.dst = (k : Int)) (hk : k < 65536) : runeL (edP e).1 = (x : Int) ∧ (edP e).2 = k := by
  unfold edP runeL
  rw [h1, h2, bitsV_nat9 x (by omega), bitsV_nat9 k (by omega)]
  simp only
  rw [Nat.mod_eq_of_lt (show x < 4294967296 by omega), Nat.mod_eq_of_lt hk]
  refine ⟨?_, rfl⟩
  simp only [IntKind.wrap, IntKind.signed, IntKind.bits]
  simp
  omega
/-- the texts, each with what is ahead -/
def onto (pre : Tx) (l : List Tx) : List Tx := l.map (fun x => pre ++ x)
def FolAll (L : List PN) (R : List (List Tx)) (f : Nat) : Prop := ∀ (F k : Nat) (l : List Tx) (pre : Tx) (left : Nat) (ws : List Tx), f ≤ F → R[k]? = some l → OkL f l → wtS l + 1 ≤ left → ∃ c, c ≤ wtS l + 1 ∧ folF L (F + 1) k pre left ws = (true, left - c, ws ++ onto pre l)
theorem folE_img {L : List PN} {R : List (List Tx)} {f F : Nat} (IH : FolAll L R f) (hF : f ≤ F) (hR : R.length ≤ 65536) (pre : Tx) : ∀ (es : List EdP) (m : List Tx) (left : Nat) (ws : List Tx), EdOk R m es → Run m → OkL (f + 1) m → wtS m ≤ left → ∃ c, c ≤ wtS m ∧ folE (folF L (F + 1)) pre (es.map edP) left ws = (true, left - c, ws ++ onto pre m)
  | [], m, left, ws, h, _, _, _ => by
    obtain rfl : m = [] := h
    exact ⟨0, Nat.zero_le _, by simp [folE, onto]⟩
  | e :: es, m, left, ws, h, hm, ho, hw => by
    obtain ⟨h0, h1, ⟨k, h2, h3⟩, h4⟩ := h
    obtain ⟨g1, g2⟩ := fol_lab9 hm h0
    have hk := (List.getElem?_eq_some_iff.1 h3).1
    obtain ⟨x1, x2⟩ := edP_ok h1 g2 h2 (by omega)
    have wf := wt_fol h0 hm.lo hm.pos
    obtain ⟨c1, hc1, e1⟩ := IH F k (folS m).2 (pre ++ labT (edP e).1) left ws hF h3 (ho.fol hm.pos) (by omega)
    obtain ⟨c2, hc2, e2⟩ := folE_img IH hF hR pre es (m.drop (folS m).2.length) (left - c1) (ws ++ onto (pre ++ labT (edP e).1) (folS m).2) h4 (hm.drop _) (ho.drop _) (by omega)
    refine ⟨c1 + c2, by omega, ?_⟩
    rw [List.map_cons]
    unfold folE
    rw [x1, if_pos g1, x2, e1]
    simp only [if_true]
    rw [e2, Nat.sub_sub, List.append_assoc]
    have e3 : onto (pre ++ labT (edP e).1) (folS m).2 = onto pre (m.take (folS m).2.length) := by
      unfold onto labT
      rw [x1]
      exact fol_map9 hm h0 pre
    rw [e3]
    unfold onto
    rw [← List.map_append, List.take_append_drop]
theorem fin_split (l : List Tx) (pre : Tx) (ws : List Tx) : (if finS l then ws ++ [pre] else ws) ++ onto pre (bodS l) = ws ++ onto pre l := by
  unfold bodS
  split
  · rename_i h
    unfold finS at h
    cases l with
    | nil => simp at h
    | cons t l =>
      simp only [List.head?_cons, Option.some.injEq, decide_eq_true_eq] at h
      subst h
      have e : pre ++ (⟨#[]⟩ : ByteArray) = pre := by
        apply tx_ext; simp
      simp [onto, e]
  · rfl
theorem folF_go9 (L : List PN) (f n : Nat) (pre : Tx) (left : Nat) (ws : List Tx) (h : ¬ (L.length ≤ n ∨ left = 0)) : folF L (f + 1) n pre left ws = folE (folF L f) pre (L.getD n ⟨false, []⟩).es (left - 1) (if (L.getD n ⟨false, []⟩).fin then ws ++ [pre] else ws) := by
  conv => lhs; unfold folF
  rw [if_neg h]
theorem fol_img {st : List GN} {ts : List Tx} (G : GOk st ts) (hl : st.length ≤ 65536) : ∀ f, FolAll (st.map pnG) (restsG st) f := by
  intro f
  induction f with
  | zero =>
    intro F k l pre left ws hF hR hO hw
    obtain ⟨hk, hr, hN⟩ := G.node hR
    have hb := bod_none hO
    have he := hN.ed
    rw [hr, hb] at he
    have hes : (st.getD k gn0).edges = [] := by
      cases h : (st.getD k gn0).edges with
      | nil => rfl
      | cons e es => rw [h] at he; exact absurd rfl he.1
    have hg : (st.map pnG).getD k ⟨false, []⟩ = ⟨finS l, []⟩ := by
      rw [List.getD_eq_getElem?_getD, List.getElem?_map, List.getElem?_eq_getElem hk]
      have e : st[k] = st.getD k gn0 := by rw [List.getD_eq_getElem?_getD, List.getElem?_eq_getElem hk]; rfl
      rw [Option.map_some, Option.getD_some, e]
      unfold pnG
      rw [hes, hN.fin, hr]; rfl
    refine ⟨1, by omega, ?_⟩
    rw [folF_go9 _ _ _ _ _ _ (by rw [List.length_map]; omega), hg]
    have := fin_split l pre ws
    rw [hb] at this
    simp only [folE]
    rw [← this]
    simp [onto]
  | succ f IH =>
    intro F k l pre left ws hF hR hO hw
    obtain ⟨F', rfl⟩ : ∃ F', F = F' + 1 := ⟨F - 1, by omega⟩
    obtain ⟨hk, hr, hN⟩ := G.node hR
    have he := hN.ed
    rw [hr] at he
    have hg : (st.map pnG).getD k ⟨false, []⟩ = ⟨finS l, (st.getD k gn0).edges.map edP⟩ := by
      rw [List.getD_eq_getElem?_getD, List.getElem?_map, List.getElem?_eq_getElem hk]
      have e : st[k] = st.getD k gn0 := by rw [List.getD_eq_getElem?_getD, List.getElem?_eq_getElem hk]; rfl
      rw [Option.map_some, Option.getD_some, e]
      unfold pnG
      rw [hN.fin, hr]
    obtain ⟨c, hc, ec⟩ := folE_img (F := F') IH (by omega) (by unfold restsG; rw [List.length_map]; exact hl) pre (st.getD k gn0).edges (bodS l) (left - 1) (if finS l then ws ++ [pre] else ws) he hO.run hO.bod (by have := wt_bod l; omega)
    have := wt_bod l
    refine ⟨c + 1, by omega, ?_⟩
    rw [folF_go9 _ _ _ _ _ _ (by rw [List.length_map]; omega), hg]
    simp only
    rw [ec, fin_split, Nat.sub_sub, Nat.add_comm 1 c]
end Go.Proofs.Ytbimbgcejeeinaa
/- pack: what Decode tells (plain) -/
namespace Go.Proofs.Ytbimbgcejeeinaa
open Go.RowKit
set_option linter.unusedVariables false
set_option maxRecDepth 20000
def GoodE (es : List PE) : Prop := ∀ e ∈ es, e.1 < 4294967296 ∧ e.2 < 65536
theorem rdE_good (bs : List Nat) (hb : ∀ b ∈ bs, b < 256) : ∀ (k at_ : Nat) (bad : Bool), GoodE (rdE bs bs.length k at_ bad).1 ∧ (rdE bs bs.length k at_ bad).1.length ≤ k
  | 0, at_, bad => ⟨fun e he => (by cases he), Nat.le_refl _⟩
  | k + 1, at_, bad => by
    have h1 := numR_lt bs bs.length at_ 4 bad hb rfl
    have h2 := numR_lt bs bs.length (atR bs.length at_ 4 bad) 2 (!okR bs.length at_ 4 bad) hb rfl
    rw [rdE_succ]
    simp only
    split
    · exact ⟨fun e he => by
        rw [List.mem_singleton] at he; subst he; exact ⟨h1, h2⟩, by simp⟩
    · have ih := rdE_good bs hb k (atR bs.length (atR bs.length at_ 4 bad) 2 (!okR bs.length at_ 4 bad)) false
      refine ⟨fun e he => ?_, by simp only [List.length_cons]; omega⟩
      rcases List.mem_cons.1 he with rfl | he
      · exact ⟨h1, h2⟩
      · exact ih.1 e he
theorem rdN_good (bs : List Nat) (hb : ∀ b ∈ bs, b < 256) (at_ : Nat) (bad : Bool) : GoodE (rdN bs bs.length at_ bad).1.es ∧ (rdN bs bs.length at_ bad).1.es.length ≤ 65535 := by
  have h := rdE_good bs hb (numR bs bs.length (atR bs.length at_ 1 bad) 2 (!okR bs.length at_ 1 bad)) (atR bs.length (atR bs.length at_ 1 bad) 2 (!okR bs.length at_ 1 bad)) (!okR bs.length (atR bs.length at_ 1 bad) 2 (!okR bs.length at_ 1 bad))
  have h2 := numR_lt bs bs.length (atR bs.length at_ 1 bad) 2 (!okR bs.length at_ 1 bad) hb rfl
  have h3 : (256 : Nat) ^ 2 = 65536 := by decide
  exact ⟨h.1, Nat.le_trans h.2 (by omega)⟩
def GoodNs (L : List PN) : Prop := ∀ x ∈ L, GoodE x.es ∧ x.es.length ≤ 65535
theorem rdL_good (bs : List Nat) (hb : ∀ b ∈ bs, b < 256) : ∀ (k at_ : Nat) (L : List PN) (e : Nat), rdL bs bs.length k at_ = some (L, e) → GoodNs L ∧ L.length ≤ k
  | 0, at_, L, e, h => by
    simp only [rdL, Option.some.injEq, Prod.mk.injEq] at h
    obtain ⟨rfl, -⟩ := h
    exact ⟨fun x hx => (by cases hx), Nat.le_refl _⟩
  | k + 1, at_, L, e, h => by
    simp only [rdL] at h
    split at h
    · cases h
    · rw [Option.map_eq_some_iff] at h
      obtain ⟨⟨L', e'⟩, h1, h2⟩ := h
      injection h2 with h2 h3
      subst h2
      obtain ⟨i1, i2⟩ := rdL_good bs hb k _ L' e' h1
      refine ⟨fun x hx => ?_, by simp only [List.length_cons]; omega⟩
      rcases List.mem_cons.1 hx with rfl | hx
      · exact rdN_good bs hb at_ false
      · exact i1 x hx
theorem readP_good {body : List Nat} (hb : ∀ b ∈ body, b < 256) {L : List PN} (h : readP body = some L) : GoodNs L ∧ L.length ≤ 65535 := by
  unfold readP at h
  split at h
  · simp only at h
    split at h
    · have hd : ∀ b ∈ body.drop 4, b < 256 := fun b hm => hb b (List.mem_of_mem_drop hm)
      have hn := numR_lt (body.drop 4) (body.drop 4).length 0 2 false hd rfl
      split at h
      · rename_i L' k hL
        split at h
        · injection h with h
          subst h
          have h3 : (256 : Nat) ^ 2 = 65536 := by decide
          have := rdL_good _ hd _ _ _ _ hL
          exact ⟨this.1, by omega⟩
        · cases h
      · cases h
    · cases h
  · cases h
/-! how long the words are that nodes tell -/
theorem folE_size {rf : Nat → Tx → Nat → List Tx → Bool × Nat × List Tx} (hl : ∀ n pre left ws, (rf n pre left ws).2.1 ≤ left) (h : ∀ n pre left ws, ∀ t ∈ (rf n pre left ws).2.2, t ∈ ws ∨ t.size ≤ pre.size + 4 * left) (pre : Tx) : ∀ (es : List PE) (left : Nat) (ws : List Tx), ∀ t ∈ (folE rf pre es left ws).2.2, t ∈ ws ∨ t.size ≤ pre.size + 4 + 4 * left
  | [], left, ws => fun t ht => Or.inl ht
  | e :: es, left, ws => fun t ht => by
    have hs : (pre ++ labT e.1).size ≤ pre.size + 4 := by rw [ByteArray.size_append]; have := labT_size e.1; omega
    have hll := hl e.2 (pre ++ labT e.1) left ws
    have hh := h e.2 (pre ++ labT e.1) left ws
    unfold folE at ht
    split at ht
    · split at ht
      · rcases folE_size hl h pre es _ _ t ht with h1 | h1
        · rcases hh t h1 with h2 | h2
          · exact Or.inl h2
          · exact Or.inr (by omega)
        · exact Or.inr (by omega)
      · rcases hh t ht with h2 | h2
        · exact Or.inl h2
        · exact Or.inr (by omega)
    · exact Or.inl ht
theorem folF_size (L : List PN) : ∀ (f n : Nat) (pre : Tx) (left : Nat) (ws : List Tx), ∀ t ∈ (folF L f n pre left ws).2.2, t ∈ ws ∨ t.size ≤ pre.size + 4 * left
  | 0, n, pre, left, ws => fun t ht => Or.inl ht
  | f + 1, n, pre, left, ws => fun t ht => by
    unfold folF at ht
    split at ht
    · exact Or.inl ht
    · rename_i hc
      rcases folE_size (folF_left L f) (folF_size L f) pre _ _ _ t ht with h1 | h1
      · split at h1
        · rcases List.mem_append.1 h1 with h1 | h1
          · exact Or.inl h1
          · rw [List.mem_singleton] at h1; subst h1; exact Or.inr (by omega)
        · exact Or.inl h1
      · exact Or.inr (by omega)
theorem size_fourN9 : ∀ (n : Nat) (t : Tx), t.size ≤ n → 0 ≤ lenS t → (t.size : Int) ≤ 4 * lenS t
  | 0, t, h, h0 => by omega
  | n + 1, t, h, h0 => by
    rcases Nat.eq_zero_or_pos t.size with hz | hp
    · omega
    · have h1 := rst_size h0 hp
      have h2 := rst_len h0 hp
      have ih := size_fourN9 n (rstS t) (by omega) h2.1
      obtain ⟨g1, g2, -⟩ := good_first h0 hp
      obtain ⟨e1, e2⟩ := ue_read_well t 0 hp g1
      have hw := ue_enc_width e1
      omega
theorem good_sizes {ts : List Tx} (h : goodV ts = 0) : ∀ t ∈ ts, t.size ≤ 48 := fun t ht => by
  obtain ⟨h1, h2⟩ := (goodV_zero h).2.1 t ht
  have := size_fourN9 t.size t (Nat.le_refl _) (by omega)
  omega
/-- the words that nodes tell from the first on; none: they tell none -/
def wordsP (L : List PN) : Option (List Tx) := if (folF L 722 0 ⟨#[]⟩ 721 []).1 then some (folF L 722 0 ⟨#[]⟩ 721 []).2.2 else none
theorem wordsP_small {L : List PN} {ts : List Tx} (h : wordsP L = some ts) : ts.length ≤ 721 ∧ ∀ t ∈ ts, t.size ≤ 2884 := by
  unfold wordsP at h
  split at h
  · injection h with h
    subst h
    refine ⟨?_, fun t ht => ?_⟩
    · have := folF_few L 722 0 ⟨#[]⟩ 721 []
      simp only [List.length_nil] at this
      omega
    · rcases folF_size L 722 0 ⟨#[]⟩ 721 [] t ht with h1 | h1
      · cases h1
      · have e : (⟨#[]⟩ : ByteArray).size = 0 := rfl
        omega
  · cases h
theorem imgB_body (st : List GN) : (imgB st).take ((imgB st).length - 4) = bodyB st := by
  unfold imgB
  rw [sealB_len, Nat.add_sub_cancel]
  unfold sealB
  exact List.take_left' rfl
theorem grS_edges {ts : List Tx} (h : goodV ts = 0) : (grS ts).length ≤ 721 ∧ ∀ x ∈ grS ts, x.edges.length ≤ 100 :=
  ⟨grS_few h (fun t ht => by have := good_sizes h t ht; omega), (grS_ok h (fun t ht => by have := good_sizes h t ht; omega)).few⟩
theorem openB_img (st : List GN) : openB (imgB st) = true := by
  have hl : 4 ≤ (imgB st).length := by unfold imgB; rw [sealB_len]; omega
  unfold openB
  rw [imgB_body, decide_eq_true hl, Bool.true_and]
  refine decide_eq_true ?_
  unfold numN imgB
  rw [sealB_len, Nat.add_sub_cancel]
  unfold sealB
  rw [List.drop_left' rfl, List.take_of_length_le (by rw [Cod.bytesOf_length]; omega), Cod.numOf_bytesOf]
  exact Nat.mod_eq_of_lt (sum_lt9 _)
theorem onto_empty (l : List Tx) : onto ⟨#[]⟩ l = l := by
  unfold onto
  refine (List.map_congr_left fun t _ => ?_).trans (List.map_id l)
  apply tx_ext; simp
theorem wordsP_img {ts : List Tx} (h : goodV ts = 0) : readP (bodyB (grS ts)) = some ((grS ts).map pnG) ∧ wordsP ((grS ts).map pnG) = some ts := by
  have hs : ∀ t ∈ ts, t.size ≤ 100 := fun t ht => by have := good_sizes h t ht; omega
  obtain ⟨h1, h2⟩ := grS_edges h
  have G := grS_ok h hs
  have hO := ok_good h hs
  have hw : wtS ts ≤ 720 := by
    have h3 := wt_good ts hO.hi
    have := (goodV_zero h).1
    omega
  refine ⟨readP_img (by omega) (fun x hx => by have := h2 x hx; omega), ?_⟩
  obtain ⟨c, hc, e⟩ := fol_img G (by omega) 12 721 0 ts ⟨#[]⟩ 721 [] (by omega) G.root hO (by omega)
  unfold wordsP
  rw [e]
  simp [onto_empty]
/-- what Decode tells of any bytes -/
def decS (bs : List Nat) : Option (List Tx) :=
  if openB bs then
    match readP (bs.take (bs.length - 4)) with
    | some L =>
      match wordsP L with
      | some ts => if goodV ts = 0 ∧ imgB (grS ts) = bs then some ts else none
      | none => none
    | none => none
  else none
theorem decS_some {bs : List Nat} {ts : List Tx} (h : decS bs = some ts) : goodV ts = 0 ∧ imgB (grS ts) = bs := by
  unfold decS at h
  split at h
  · split at h
    · split at h
      · split at h
        · rename_i hx
          injection h with h
          subst h
          exact hx
        · cases h
      · cases h
    · cases h
  · cases h
theorem decS_img {ts : List Tx} (h : goodV ts = 0) : decS (imgB (grS ts)) = some ts := by
  obtain ⟨h1, h2⟩ := wordsP_img h
  unfold decS
  rw [openB_img, imgB_body, h1]
  simp [h2, h]
end Go.Proofs.Ytbimbgcejeeinaa
/- pack: wordsOf -/
namespace Go.Proofs.Ytbimbgcejeeinaa
open Go.RowKit
set_option linter.unusedVariables false
set_option maxRecDepth 20000
theorem fol_any (l : Nat) (NL : List PM) (na : Option Addr) (nc : Nat) (hG : GoodPM NL) (hlen : NL.length ≤ 70000) (hes : ∀ x ∈ NL, x.es.length ≤ 70000) : ∀ f, LisAny l NL na nc f := by
  intro f
  induction f with
  | zero => exact fol_step l NL na nc 0 hG hlen hes (fun f' h => by omega)
  | succ f ih => exact fol_step l NL na nc (f + 1) hG hlen hes (fun f' h => by obtain rfl : f = f' := by omega
                                                                               exact ih)
theorem PR9.less {B B' : Nat} {NL : List PM} {na : Option Addr} {nc : Nat} {w : World} (h : PR9 B NL na nc w) (hB : B' ≤ B) : PR9 B' NL na nc w := ⟨base_less9 h.o hB, fun x hx => base_less9 (h.e x hx) hB, h.ne⟩
def WordsP (w : World) (x : Option (List Tx)) (e : Ending) (w' : World) : Prop := Below w.heap.size w w' ∧ match x with
  | some ts => ∃ wa wc, e = .returned (.tuple #[.slice wa ts.length wc, .bool true]) ∧ w'.ownsRow w.heap.size 9 1 (.slice wa ts.length wc) ts.length (strsV ts)
  | none => ∃ v, e = .returned (.tuple #[v, .bool false])
set_option maxHeartbeats 1600000 in
theorem words_any (NL : List PM) (na : Option Addr) (nc B : Nat) (w : World) (h : PR9 B NL na nc w) (hg : GoodNs (NL.map pmP)) (hl : NL.length ≤ 65535) :
    Calls Try.prog 48 #[.slice na NL.length nc] w (WordsP w (wordsP (NL.map pmP))) := by
  have hG : GoodPM NL := fun x hx => (hg (pmP x) (List.mem_map_of_mem hx)).1
  have hes : ∀ x ∈ NL, x.es.length ≤ 70000 := fun x hx => by
    have h2 : x.es.length ≤ 65535 := (hg (pmP x) (List.mem_map_of_mem hx)).2
    omega
  have hb1 := below_one w (.cells #[.slice na NL.length nc, .int .i64 721, .slice none 0 0] 100)
  have FL := Lib.hid (show FL9 w.heap.size NL na nc 721 [] none 0 (w.alloc (.cells #[.slice na NL.length nc, .int .i64 721, .slice none 0 0] 100)) from
    ⟨by rw [cell_alloc rfl]; rfl, by rw [cell_alloc rfl]; rfl, by rw [cell_alloc rfl]; rfl, fun i => frozen_alloc rfl, World.ownsRow_nil _ _ _ _,
      (h.less (Nat.zero_le B)).turn (T := fun _ => False) (Turn.of_below hb1) (fun _ _ x => x) (fun _ _ _ _ x => x),
      fun k e => (h.o.lt k (by rw [e]; rfl)).2, fun x hx k e => ((h.e x hx).lt k (by rw [e]; rfl)).2⟩)
  have CF := Lib.hid (fol_any w.heap.size NL na nc hG (by omega) hes 721 0 ⟨#[]⟩ 721 [] none 0 _ FL.out (by omega) (by omega) (by simp) (by decide) (by omega))
  have B1 := Lib.hid (show Below w.heap.size w (w.alloc (.cells #[.slice na NL.length nc, .int .i64 721, .slice none 0 0] 100)) from hb1)
  obtain ⟨r, hr⟩ : ∃ r, folF (NL.map pmP) 722 0 ⟨#[]⟩ 721 [] = r := ⟨_, rfl⟩
  rw [show folF (NL.map pmP) (721 + 1) 0 ⟨#[]⟩ 721 [] = r from hr] at CF
  have WP := Lib.hid (show wordsP (NL.map pmP) = if r.1 then some r.2.2 else none from by unfold wordsP; rw [hr])
  obtain ⟨N, hN⟩ : ∃ N, NL.length = N := ⟨_, rfl⟩
  rw [hN] at CF FL B1 ⊢
  clear h hg hl hG hes hb1 FL hr
  rw [show ((0 : Nat) : Int) = 0 from rfl] at CF
  go_enter Try.func48, Try.ntmps48
  go_wp2_with fail
  with_reducible refine CF.out.mono ?_
  rintro e w2 ⟨rfl, ⟨wa, wc, L2⟩, b2⟩
  have H2 := Lib.hid L2
  have B2 := Lib.hid (B1.out.trans b2)
  obtain ⟨ok, lf, ws⟩ := r
  have c2 := L2.c2
  clear L2 b2 CF
  cases ok with
  | true =>
    have WT := Lib.hid (show wordsP (NL.map pmP) = some ws from WP.out)
    go_wp2_with fail
    go_ret2
    refine ⟨B2.out, ?_⟩
    rw [WT.out]
    exact ⟨wa, wc, rfl, base_less9 H2.out.o (by omega)⟩
  | false =>
    have WT := Lib.hid (show wordsP (NL.map pmP) = none from WP.out)
    go_wp2_with fail
    go_ret2
    refine ⟨B2.out, ?_⟩
    rw [WT.out]
    exact ⟨_, rfl⟩
end Go.Proofs.Ytbimbgcejeeinaa
/- pack: Decode -/
namespace Go.Proofs.Ytbimbgcejeeinaa
open Go.RowKit
set_option linter.unusedVariables false
set_option maxRecDepth 20000
def DecP (w : World) (bs : List Nat) (e : Ending) (w' : World) : Prop := Below w.heap.size w w' ∧ match decS bs with
  | some ts => ∃ g S, e = .returned (.tuple #[.pointer (some ⟨g, 0, none⟩), .int .i64 0]) ∧ CtxG w w' g (grS ts) S
  | none => e = .returned (.tuple #[.pointer none, .int .i64 (if openB bs then 8 else 9)])
theorem decP_bad {w w' : World} {bs : List Nat} (hb : Below w.heap.size w w') (ho : openB bs = true) (hd : decS bs = none) : DecP w bs (.returned (.tuple #[.pointer none, .int .i64 8])) w' := by
  refine ⟨hb, ?_⟩
  rw [hd, ho]
  rfl
set_option maxHeartbeats 3200000 in
theorem decode_any (a : Option Addr) (n cap : Nat) (bs : List Nat) (w : World) (h : HoldsB w a n bs) (hc : n ≤ cap) (hn : n ≤ 1048576) :
    Calls Try.prog 30 #[.slice a n cap] w (DecP w bs) := by
  have hl := h.len
  have CS := Lib.hid (wSealed_any a n cap bs w h hn hc)
  have H := Lib.hid h
  cases ho : openB bs with
  | false =>
    rw [ho] at CS
    simp only [Bool.false_eq_true, if_false] at CS
    have FIN := Lib.hid (show DecP w bs (.returned (.tuple #[.pointer none, .int .i64 9])) w from by
      refine ⟨Below.refl _ _, ?_⟩
      have hd : decS bs = none := by unfold decS; rw [ho]; rfl
      rw [hd, ho]
      rfl)
    clear h hl ho
    go_enter Try.func30, Try.ntmps30
    go_wp2_with fail
    with_reducible refine CS.out.mono ?_
    rintro e w1 ⟨rfl, rfl⟩
    go_wp2_with fail
    go_ret2
    exact FIN.out
  | true =>
    rw [ho] at CS
    simp only [if_true] at CS
    have h4 : 4 ≤ n := by
      unfold openB at ho
      rw [Bool.and_eq_true] at ho
      have := of_decide_eq_true ho.1
      omega
    obtain ⟨k, hk⟩ : ∃ k, n - 4 = k := ⟨_, rfl⟩
    obtain ⟨body, hbo⟩ : ∃ b, bs.take (bs.length - 4) = b := ⟨_, rfl⟩
    have hB : HoldsB w a k body := by
      obtain ⟨q, o, rfl, -⟩ := h.at (by omega)
      rw [← hbo, hl, hk]
      exact h.front k (by omega)
    have CR := Lib.hid (read_any a k cap body w hB (by omega) (by omega))
    have hb256 : ∀ b ∈ body, b < 256 := hB.2
    have DS := Lib.hid (show decS bs = (match readP body with
      | some L => (match wordsP L with
        | some ts => if goodV ts = 0 ∧ imgB (grS ts) = bs then some ts else none
        | none => none)
      | none => none) from by
      unfold decS
      rw [ho, if_pos rfl, hbo]
      all_goals (cases readP body <;> first | rfl | (rename_i L; cases wordsP L <;> rfl)))
    have HO := Lib.hid ho
    rw [hk] at CS
    clear h hl ho hbo hk hB
    go_enter Try.func30, Try.ntmps30
    go_wp2_with fail
    with_reducible refine CS.out.mono ?_
    rintro e w1 ⟨rfl, rfl⟩
    go_wp2_with fail
    with_reducible refine CR.out.mono ?_
    rintro e w1 ⟨hb1, hr⟩
    have B1 := Lib.hid hb1
    clear hb1 CS CR
    cases hp : readP body with
    | none =>
      rw [hp] at hr
      obtain ⟨v, rfl⟩ := hr
      have FIN := Lib.hid (decP_bad B1.out HO.out (by rw [DS.out, hp]))
      clear hp
      go_wp2_with fail
      go_ret2
      exact FIN.out
    | some L =>
      rw [hp] at hr
      obtain ⟨na, nc, NL, hNL, rfl, q1⟩ := hr
      have DS2 := Lib.hid (show decS bs = (match wordsP L with
        | some ts => if goodV ts = 0 ∧ imgB (grS ts) = bs then some ts else none
        | none => none) from by rw [DS.out, hp])
      obtain ⟨g1, g2⟩ := readP_good hb256 hp
      subst hNL
      have CW := Lib.hid (words_any NL na nc _ w1 q1 g1 (by simpa using g2))
      clear hp hb256 q1 g1 g2 DS
      go_wp2_with fail
      with_reducible refine CW.out.mono ?_
      rintro e w2 ⟨hb2, hr⟩
      have B2 := Lib.hid (B1.out.trans (hb2.mono B1.out.size))
      clear hb2 CW
      cases hp : wordsP (NL.map pmP) with
      | none =>
        rw [hp] at hr
        obtain ⟨v, rfl⟩ := hr
        have FIN := Lib.hid (decP_bad B2.out HO.out (by rw [DS2.out, hp]))
        clear hp
        go_wp2_with fail
        go_ret2
        exact FIN.out
      | some ts =>
        rw [hp] at hr
        obtain ⟨wa, wc, rfl, o2⟩ := hr
        obtain ⟨s1, s2⟩ := wordsP_small hp
        have DS3 := Lib.hid (show decS bs = (if goodV ts = 0 ∧ imgB (grS ts) = bs then some ts else none) from by rw [DS2.out, hp])
        have HT : HoldsT w2 wa ts.length ts := HoldsT.own o2
        have hcap : ts.length ≤ wc := (owns_none o2).2
        by_cases hv : goodV ts = 0
        · have hs : ∀ t ∈ ts, t.size ≤ 100 := fun t ht => by have := good_sizes hv t ht; omega
          have CB := Lib.hid (build_c (w0 := w) wa ts.length wc ts (grS ts) w2 B2.out HT hcap (by omega) hs hv rfl)
          have CE := Lib.hid (fun g S (w' : World) (h : GAt g (grS ts) w' S) => encode_of g ts S w' h hv hs)
          have HV := Lib.hid hv
          clear hp hv hs HT o2 DS2 s1 s2
          go_wp2_with fail
          with_reducible refine CB.out.mono ?_
          rintro e w3 ⟨g, S, rfl, hC, hb3⟩
          have C3 := Lib.hid (CE.out g S w3 hC.G)
          have X3 := Lib.hid hC
          have HB3 := Lib.hid (H.out.below hC.b)
          clear hC hb3 CE CB
          go_wp2_with fail
          with_reducible refine C3.out.mono ?_
          rintro e w4 ⟨a4, c4, rfl, o4, b4, -⟩
          have X4 := Lib.hid (X3.out.more b4)
          have CQ := Lib.hid (bEqual_any a4 a (imgB (grS ts)).length c4 n cap (imgB (grS ts)) bs w4 (holdsB_of_values (owns_holds o4) (sealB_lt _ (bodyB_lt _))) (HB3.out.below b4))
          clear o4 b4 C3 HB3
          by_cases he : imgB (grS ts) = bs
          · rw [decide_eq_true he] at CQ
            have FIN := Lib.hid (show DecP w bs (.returned (.tuple #[.pointer (some ⟨g, 0, none⟩), .int .i64 0])) w4 from by
              refine ⟨X4.out.b, ?_⟩
              rw [DS3.out, if_pos ⟨HV.out, he⟩]
              exact ⟨g, S, rfl, X4.out⟩)
            clear he
            go_wp2_with fail
            with_reducible refine CQ.out.mono ?_
            rintro e w5 ⟨rfl, rfl⟩
            go_wp2_with fail
            go_ret2
            exact FIN.out
          · rw [decide_eq_false he] at CQ
            have FIN := Lib.hid (decP_bad X4.out.b HO.out (by rw [DS3.out, if_neg (fun h => he h.2)]))
            clear he
            go_wp2_with fail
            with_reducible refine CQ.out.mono ?_
            rintro e w5 ⟨rfl, rfl⟩
            go_wp2_with fail
            go_ret2
            exact FIN.out
        · have CB := Lib.hid (build_bad wa ts.length wc ts (goodV ts) w2 HT (by omega) (fun t ht => by have := s2 t ht; omega) rfl hv)
          have ne : (goodV ts != 0) = true := by simpa using hv
          have FIN := Lib.hid (fun w' (hb : Below w.heap.size w w') => decP_bad hb HO.out (by rw [DS3.out, if_neg (fun h => hv h.1)]))
          obtain ⟨gv, hgv⟩ : ∃ v, goodV ts = v := ⟨_, rfl⟩
          rw [hgv] at CB ne
          clear hp hv HT o2 DS2 s1 s2 hgv
          go_wp2_with fail
          with_reducible refine CB.out.mono ?_
          rintro e w3 ⟨rfl, hb3⟩
          have F3 := Lib.hid (FIN.out w3 (B2.out.trans (hb3.mono B2.out.size)))
          clear hb3 CB FIN
          go_wp2_with fail
          go_ret2
          exact F3.out
end Go.Proofs.Ytbimbgcejeeinaa
/- contracts of the reference's code: bytes laid -/
namespace Go.Proofs.Ytbimbgcejeeinaa
open Go.RowKit
set_option linter.unusedVariables false
set_option maxRecDepth 20000
set_option maxHeartbeats 800000 in
theorem rput_any (a : Option Addr) (n cap : Nat) (bs : List Nat) (v size : Int) (w : World) (h : HoldsB w a n bs) (hnil : a = none → n = 0 ∧ cap = 0) (hn : n ≤ 524288) :
    Calls Try.prog 91 #[.slice a n cap, .int .i64 v, .int .i64 size] w (RetB 5 w (bs ++ Cod.bytesOf (bitsV v) (sizeV size))) := by
  obtain ⟨i0, hi, hz0, hz1, hz2⟩ := info_parts u8_info
  have HN := Lib.hid hnil; have H := Lib.hid h; have HL := Lib.hid h.len; have HV := Lib.hid h.values
  have hb := bitsV_eq v
  clear h hnil
  obtain ⟨s, hs⟩ : ∃ s : Nat, sizeV size = s := ⟨_, rfl⟩
  have hs8 : s ≤ 8 := by unfold sizeV at hs; omega
  have HS := Lib.hid hs
  clear hs
  go_enter Try.func91, Try.ntmps91
  go_upto_region 3 with (at_builtin; refine wpList_append_any rfl (.const (.slice none 0 0)) (.tmp 10) 31 rfl w.heap.size 5 i0 (.int .u8 0) 1 1 Try.underlying31 hi hz0 hz1 hz2 rfl (by decide) _ 0 [] rfl (World.ownsRow_nil _ _ _ _) a n cap (bytesV bs) rfl HN.out (by simpa using HV.out.1) (HV.out.cells (World.grownBy.refl _ _)) (bytesV_one bs) (by unfold maxLen; omega) (by omega) (Nat.le_refl _) ?_; intro a1 c1 w1 hown1 hb1 hnil1; simp only [Nat.zero_add, List.nil_append] at hown1)
  have O1 := Lib.hid hown1; have B1 := Lib.hid hb1
  clear hown1 hb1 hnil1
  go_cut [9] (fun x wx => x = .int .i64 ((s : Int) - 1) ∧ w1 = wx)
  case first =>
    go_wp2_with fail
    all_goals go_meet
    all_goals exact ⟨by congr 1; have hs := HS.out; unfold sizeV at hs; omega, rfl⟩
  case rest =>
    obtain ⟨rfl, rfl⟩ := hcut
    go_wp2_with fail
    go_loopw [7, 9] (fun x i wr => ∃ (k : Nat) (a2 : Option Addr) (c2 : Nat), k ≤ s ∧ i = .int .i64 ((s : Int) - 1 - k) ∧ x = .slice a2 (n + k) c2 ∧ Hid (wr.ownsRow w.heap.size 5 1 (.slice a2 (n + k) c2) (n + k) (bytesV (bs ++ (Cod.bytesOf (bitsV v) s).take k))) ∧ Hid (Below w.heap.size w wr)) (fun _ i _ => (intOf i + 1).toNat)
    case atStart => exact ⟨0, a1, c1, by omega, by congr 1; omega, by rw [Nat.add_zero], by rw [List.take_zero, List.append_nil, Nat.add_zero]; exact O1, B1⟩
    case round =>
      obtain ⟨k, a2, c2, hk, rfl, rfl, hO, hB⟩ := hrel
      by_cases hlt : k < s
      · have ht := Cod.bytesOf_take (bitsV v) s k hlt
        have hby := byte_at (bitsV v) (s - 1 - k)
        have HT := Lib.hid ht; have HBY := Lib.hid hby
        clear ht hby
        have q1 : (8 * ((s : Int) - 1 - (k : Int))).toNat = 8 * (s - 1 - k) := by omega
        go_wp2_with (at_builtin; refine wpList_append_any rfl (.tmp 22) (.tmp 28) 31 rfl w.heap.size 5 i0 (.int .u8 0) 1 1 Try.underlying31 hi hz0 hz1 hz2 rfl (by decide) _ (n + k) _ rfl (hO.out.alloc _) _ 1 1 _ rfl (some_none _) rfl (one_new _ _ _ _) (one_int _ _) (by unfold maxLen; omega) (by omega) (by have := hB.out.size; simp; omega) ?_; intro a3 c3 w3 hown3 hb3 hnil3)
        have hv : bytesV (bs ++ List.take (k + 1) (Cod.bytesOf (bitsV v) s)) = bytesV (bs ++ List.take k (Cod.bytesOf (bitsV v) s)) ++ [Value.int .u8 ((bitsV v : Int) / 2 ^ (8 * (s - 1 - k)) % 256)] := by
          rw [HT.out, HBY.out, ← List.append_assoc, ← bytesV_append]; rfl
        go_roundw
        case rel => exact ⟨k + 1, a3, c3, by omega, by congr 1; omega, rfl, by rw [hv]; exact hown3, hB.out.trans ((below_one _ _).mono hB.out.size |>.trans hb3)⟩
        case measure => simp [intOf]; omega
      · have hks : k = s := by omega
        have hfin : bs ++ (Cod.bytesOf (bitsV v) s).take k = bs ++ Cod.bytesOf (bitsV v) s := by rw [List.take_of_length_le (by rw [Cod.bytesOf_length, hks]; exact Nat.le_refl _)]
        have hlen : (bs ++ Cod.bytesOf (bitsV v) s).length = n + k := by rw [List.length_append, HL.out, Cod.bytesOf_length, hks]
        have hO2 := hO.out
        rw [hfin] at hO2
        have HO2 := Lib.hid hO2; have HLL := Lib.hid hlen
        clear hks hfin hlen hO2
        go_wp2
        go_ret
        rw [HS.out]
        exact ⟨a2, c2, by rw [HLL.out]; rfl, by rw [HLL.out]; exact HO2.out, hB.out, by rw [HLL.out]; exact (owns_none HO2.out).1⟩
end Go.Proofs.Ytbimbgcejeeinaa
/- contracts of code and of its reference: a text laid behind bytes -/
namespace Go.Proofs.Ytbimbgcejeeinaa
open Go.RowKit
set_option linter.unusedVariables false
set_option maxRecDepth 20000
/-- what of a text is laid -/
def cutS (s : ByteArray) : ByteArray := s.extract 0 (min s.size 65535)
theorem cutS_size (s : ByteArray) : (cutS s).size = min s.size 65535 := by simp [cutS, ByteArray.size_extract]
theorem cutS_small (s : ByteArray) (h : s.size ≤ 65535) : cutS s = s := by
  unfold cutS; rw [Nat.min_eq_left h, ByteArray.extract_zero_size]
theorem cutS_great (s : ByteArray) (h : 65535 < s.size) : cutS s = s.extract 0 65535 := by
  unfold cutS; rw [Nat.min_eq_right (by omega)]
def putTextV (bs : List Nat) (s : ByteArray) : List Nat := bs ++ Cod.bytesOf (cutS s).size 2 ++ strB (cutS s)
theorem bitsV_nat (n : Nat) (h : n < 18446744073709551616) : bitsV (n : Int) = n := by
  unfold bitsV; simp only [IntKind.wrap, IntKind.signed, IntKind.bits]; simp; omega
end Go.Proofs.Ytbimbgcejeeinaa
/- contract of the reference's code: a text laid behind bytes -/
namespace Go.Proofs.Ytbimbgcejeeinaa
open Go.RowKit
set_option linter.unusedVariables false
set_option maxRecDepth 20000
end Go.Proofs.Ytbimbgcejeeinaa
/- two slices of one kind of numbers held against each other -/
namespace Go.Proofs.Ytbimbgcejeeinaa
open Go.RowKit
set_option linter.unusedVariables false
set_option maxRecDepth 20000

set_option maxHeartbeats 400000 in
theorem sameBytes_any (a1 a2 : Option Addr) (n1 c1 n2 c2 : Nat) (z1 z2 : List Int) (w : World) (h1 : HoldsI .u8 w a1 n1 z1) (h2 : HoldsI .u8 w a2 n2 z2) (hl1 : n1 ≤ 4611686018427387904) (hl2 : n2 ≤ 4611686018427387904) :
    Calls Try.prog 23 #[.slice a1 n1 c1, .slice a2 n2 c2] w fun e w' => e = .returned (.bool (decide (z1 = z2))) ∧ ∃ m, w' = w.drewN m := by
  obtain ⟨g1, g1'⟩ := h1
  obtain ⟨g2, g2'⟩ := h2
  by_cases hn : n1 = n2
  · subst hn
    rcases Nat.eq_zero_or_pos n1 with h0 | h0
    · subst h0
      clear g1' g2'
      obtain rfl := List.eq_nil_of_length_eq_zero g1
      obtain rfl := List.eq_nil_of_length_eq_zero g2
      go_enter Try.func23, Try.ntmps23
      go_wp2
      go_loop [5] (fun i => i = .int .i64 0) (fun _ => 0)
      case atStart => rfl
      case round =>
        obtain rfl := hrel
        go_wp2
        go_ret
        exact ⟨rfl, 0, rfl⟩
    · obtain ⟨b1, o1, rfl, k1⟩ := g1' h0
      obtain ⟨b2, o2, rfl, k2⟩ := g2' h0
      clear g1' g2'
      have G1 := Lib.hid g1; have G2 := Lib.hid g2; have K1 := Lib.hid k1; have K2 := Lib.hid k2
      clear g1 g2 k1 k2
      go_enter Try.func23, Try.ntmps23
      go_wp2
      go_loopw [5] (fun i wr => ∃ k m : Nat, k ≤ n1 ∧ i = .int .i64 k ∧ z1.take k = z2.take k ∧ wr = w.drewN m) (fun i _ => n1 - (intOf i).toNat)
      case atStart => exact ⟨0, 0, by omega, rfl, rfl, rfl⟩
      case round =>
        obtain ⟨k, m, hk, rfl, he, rfl⟩ := hrel
        have HE := Lib.hid he
        clear he
        by_cases hlt : k < n1
        · have e1 := K1.out k hlt
          have e2 := K2.out k hlt
          obtain ⟨x, hx⟩ : ∃ x, z1.getD k 0 = x := ⟨_, rfl⟩
          obtain ⟨y, hy⟩ : ∃ y, z2.getD k 0 = y := ⟨_, rfl⟩
          rw [hx] at e1; rw [hy] at e2
          have HX := Lib.hid hx; have HY := Lib.hid hy
          clear hx hy
          by_cases hxy : x = y
          · subst hxy
            go_wp2
            go_quiet (fail)
            go_wp2
            go_roundw
            case rel => exact ⟨k + 1, _, by omega, by go_num, by rw [take_succ_getD z1 0 k (by rw [G1.out]; exact hlt), take_succ_getD z2 0 k (by rw [G2.out]; exact hlt), HE.out, HX.out, HY.out], rfl⟩
            case measure => simp [intOf]; omega
          · have hb : (x != y) = true := by simpa using hxy
            go_wp2
            go_quiet (fail)
            go_wp2
            go_ret
            exact ⟨ret_bool (by symm; rw [decide_eq_false_iff_not]; exact take_ne_of_getD 0 k (by rw [HX.out, HY.out]; exact hxy)), _, World.drewN_drewN _ _ _⟩
        · have hkn : k = n1 := by omega
          have HK := Lib.hid hkn
          clear hkn
          go_wp2
          go_ret
          exact ⟨ret_bool (by symm; rw [decide_eq_true_iff]; exact take_eq_all (n := k) HE.out (by rw [G1.out, HK.out]) (by rw [G2.out, HK.out])), _, rfl⟩
  · have hb : ((n1 : Int) != (n2 : Int)) = true := by simp; omega
    clear g1' g2'
    have HN := Lib.hid hn; have G1 := Lib.hid g1; have G2 := Lib.hid g2
    clear hn g1 g2
    go_enter Try.func23, Try.ntmps23
    go_wp2
    go_ret
    exact ⟨ret_bool (by symm; rw [decide_eq_false_iff_not]; intro e; exact HN.out (by rw [← G1.out, ← G2.out, e])), 0, rfl⟩
end Go.Proofs.Ytbimbgcejeeinaa
/- what every program answers that is one: code -/
namespace Go.Proofs.Ytbimbgcejeeinaa
open Go.RowKit
set_option linter.unusedVariables false
set_option maxRecDepth 20000
theorem num_yesI (a : Option Addr) (n cap : Nat) (bs : List Nat) (k s : Nat) (kI sI : Int) (w : World) (h : HoldsB w a n bs) (hn : n ≤ 9223372036854775807) (h1 : 1 ≤ s) (h8 : s ≤ 8) (hk : k + s ≤ n) (ek : kI = k) (es : sI = s) :
    Calls Try.prog 66 #[.slice a n cap, .int .i64 kI, .int .i64 sI] w fun e w' => e = .returned (.tuple #[.int .i64 (wrap64 (numN bs k s : Nat)), .bool true]) ∧ w = w' := by
  subst ek es; exact num_yes a n cap bs k s w h hn h1 h8 hk
theorem cast_inj (xs ys : List Nat) : (xs.map (fun b : Nat => (b : Int)) = ys.map fun b : Nat => (b : Int)) ↔ xs = ys := by
  constructor
  · intro h
    have := congrArg (List.map Int.toNat) h
    simpa [List.map_map, Function.comp_def] using this
  · rintro rfl; rfl
theorem sameB_any (a1 a2 : Option Addr) (n1 c1 n2 c2 : Nat) (x1 x2 : List Nat) (w : World) (h1 : HoldsB w a1 n1 x1) (h2 : HoldsB w a2 n2 x2) (hl1 : n1 ≤ 4611686018427387904) (hl2 : n2 ≤ 4611686018427387904) :
    Calls Try.prog 23 #[.slice a1 n1 c1, .slice a2 n2 c2] w fun e w' => e = .returned (.bool (decide (x1 = x2))) ∧ ∃ m, w' = w.drewN m :=
  (sameBytes_any a1 a2 n1 c1 n2 c2 _ _ w h1.1 h2.1 hl1 hl2).mono fun e w' ⟨he, hw⟩ => ⟨by rw [he]; congr 2; exact decide_eq_decide.2 (cast_inj x1 x2), hw⟩
theorem HoldsB.drewN {w : World} {a : Option Addr} {n : Nat} {bs : List Nat} (h : HoldsB w a n bs) (m : Nat) : HoldsB (w.drewN m) a n bs := h.below (below_drewN w m)
theorem HoldsB.alloc {w : World} {a : Option Addr} {n : Nat} {bs : List Nat} (h : HoldsB w a n bs) (o : Obj) : HoldsB (w.alloc o) a n bs := h.below (below_one w o)
theorem own_holdsB {w : World} {base : Nat} {e : TypeId} {a : Option Addr} {n c : Nat} {bs : List Nat} (h : w.ownsRow base e 1 (.slice a n c) n (bytesV bs)) (hb : ∀ b ∈ bs, b < 256) : HoldsB w a n bs := holdsB_of_values (owns_holds h) hb
end Go.Proofs.Ytbimbgcejeeinaa
/- graph: From's closure -/
namespace Go.Proofs.Ytbimbgcejeeinaa
open Go.RowKit
set_option linter.unusedVariables false
set_option maxRecDepth 20000
/-- a word is handed over: what is held then, and whether more may come -/
def takeO (lo : Tx) (out : List Tx) (x : Tx) : List Tx := if cmpS x lo < 0 then out else out ++ [x]
def takeL (lo : Tx) (most : Int) : List Tx → List Tx → List Tx × Bool
  | out, [] => (out, true)
  | out, x :: l => if ((takeO lo out x).length : Int) < most then takeL lo most (takeO lo out x) l else (takeO lo out x, false)
theorem takeO_len (lo : Tx) (out : List Tx) (x : Tx) : (takeO lo out x).length ≤ out.length + 1 := by
  unfold takeO; split <;> simp
theorem takeL_len (lo : Tx) (most : Int) : ∀ (l out : List Tx), (takeL lo most out l).1.length ≤ out.length + l.length
  | [], out => by simp [takeL]
  | x :: l, out => by
    have h1 := takeO_len lo out x
    have h2 := takeL_len lo most l (takeO lo out x)
    unfold takeL
    split
    · simp only [List.length_cons]; omega
    · simp only [List.length_cons]; omega
theorem takeL_app (lo : Tx) (most : Int) : ∀ (a b out : List Tx), takeL lo most out (a ++ b) = if (takeL lo most out a).2 then takeL lo most (takeL lo most out a).1 b else ((takeL lo most out a).1, false)
  | [], b, out => by simp [takeL]
  | x :: a, b, out => by
    have ih := takeL_app lo most a b (takeO lo out x)
    simp only [List.cons_append, takeL]
    split
    · exact ih
    · simp
/-- what the closure holds: the text, the list, how many -/
structure QT (B : Nat) (lo : Tx) (most : Int) (p1 p2 p3 : Nat) (out : List Tx) (oa : Option Addr) (oc : Nat) (w : World) (S : Nat → Prop) : Prop where
  c1 : w.cell? ⟨p1, 0, none⟩ = some (.string lo)
  c2 : w.cell? ⟨p2, 0, none⟩ = some (.slice oa out.length oc)
  c3 : w.cell? ⟨p3, 0, none⟩ = some (.int .i64 most)
  f : ∀ i, w.frozen? ⟨p2, i, none⟩ = false
  o : w.ownsRow B 9 1 (.slice oa out.length oc) out.length (strsV out)
  s1 : S p1
  s2 : S p2
  s3 : S p3
  n1 : p1 ≠ p2
  n2 : p3 ≠ p2
  no : ∀ q, oa = some ⟨q, 0, none⟩ → S q ∧ q ≠ p1 ∧ q ≠ p2 ∧ q ≠ p3
  lt : ∀ k, S k → k < w.heap.size
  b : B ≤ w.heap.size
def QTs (B : Nat) (lo : Tx) (most : Int) (p1 p2 p3 : Nat) (out : List Tx) (w : World) (S : Nat → Prop) : Prop := ∃ oa oc, QT B lo most p1 p2 p3 out oa oc w S
theorem QT.blocks {B : Nat} {lo : Tx} {most : Int} {p1 p2 p3 : Nat} {out : List Tx} {oa : Option Addr} {oc : Nat} {w w' : World} {S : Nat → Prop} (h : QT B lo most p1 p2 p3 out oa oc w S) (hs : w.heap.size ≤ w'.heap.size) (hb : ∀ k, S k → w'.heap[k]? = w.heap[k]?) : QT B lo most p1 p2 p3 out oa oc w' S :=
  ⟨(World.cell?_of_block (w := w) (hb p1 h.s1)).trans h.c1, (World.cell?_of_block (w := w) (hb p2 h.s2)).trans h.c2, (World.cell?_of_block (w := w) (hb p3 h.s3)).trans h.c3, fun i => (World.frozen?_of_block (w := w) (hb p2 h.s2)).trans (h.f i), gowns_block h.o (fun q hq => hb q (h.no q hq).1), h.s1, h.s2, h.s3, h.n1, h.n2, h.no, fun k hk => Nat.lt_of_lt_of_le (h.lt k hk) hs, Nat.le_trans h.b hs⟩
theorem qts_ok (B : Nat) (lo : Tx) (most : Int) (p1 p2 p3 : Nat) (out : List Tx) : ObjOk (QTs B lo most p1 p2 p3 out) :=
  ⟨fun h t hF => by obtain ⟨oa, oc, x⟩ := h; exact ⟨oa, oc, x.blocks t.size (fun k hk => t.block k (x.lt k hk) (hF k hk))⟩, fun h => by obtain ⟨oa, oc, x⟩ := h; exact x.lt⟩
theorem strsV_snocG (l : List Tx) (x : Tx) : strsV (l ++ [x]) = strsV l ++ [.string x] := by simp [strsV]
/-- behind a word more -/
theorem QT.grow {B : Nat} {lo x : Tx} {most : Int} {p1 p2 p3 : Nat} {out : List Tx} {oa : Option Addr} {oc : Nat} {w w6 : World} {S : Nat → Prop} {q cap : Nat} {o : Obj} (h : QT B lo most p1 p2 p3 out oa oc w S)
    (own : w6.ownsRow B 9 1 (.slice (some ⟨q, 0, none⟩) (out.length + 1) cap) (out.length + 1) (strsV out ++ [.string x]))
    (hg : (w.alloc o).grownBy w6 (Value.slice oa out.length oc).ownBlock) (hat : (Value.slice oa out.length oc).ownBlock = some q ∨ q = (w.alloc o).heap.size) (hlt : q < w6.heap.size) :
    PO (QTs B lo most p1 p2 p3 (out ++ [x])) w S (w6.setCell ⟨p2, 0, none⟩ (.slice (some ⟨q, 0, none⟩) (out.length + 1) cap)) := by
  have hza : (w.alloc o).heap.size = w.heap.size + 1 := by simp
  have hz6 := hg.size
  have old : ∀ k, k < w.heap.size → (∀ r, oa = some ⟨r, 0, none⟩ → k ≠ r) → w6.heap[k]? = w.heap[k]? := fun k hk hn =>
    (hg.block k (by omega) (fun e => hn k (gown_at h.o e) rfl)).trans (Below.heap_alloc _ _ _ (by omega))
  have ob1 := old p1 (h.lt _ h.s1) (fun r e hq => (h.no r e).2.1 hq.symm)
  have ob2 := old p2 (h.lt _ h.s2) (fun r e hq => (h.no r e).2.2.1 hq.symm)
  have ob3 := old p3 (h.lt _ h.s3) (fun r e hq => (h.no r e).2.2.2 hq.symm)
  have gq : q ≠ p1 ∧ q ≠ p2 ∧ q ≠ p3 := by
    rcases hat with e | e
    · exact (h.no q (gown_at h.o e.symm)).2
    · have := h.lt _ h.s1; have := h.lt _ h.s2; have := h.lt _ h.s3; omega
  have sz : (w6.setCell ⟨p2, 0, none⟩ (.slice (some ⟨q, 0, none⟩) (out.length + 1) cap)).heap.size = w6.heap.size := by simp [World.setCell]
  have hlen : (out ++ [x]).length = out.length + 1 := by simp
  have n1 := h.n1; have n2 := h.n2
  refine ⟨fun k => S k ∨ k = q, ⟨some ⟨q, 0, none⟩, cap, ⟨?_, ?_, ?_, fun i => ?_, ?_, Or.inl h.s1, Or.inl h.s2, Or.inl h.s3, h.n1, h.n2, fun r hr => ?_, fun k hk => ?_, ?_⟩⟩, fun k hk => ?_, ?_⟩
  · rw [cset_far (Ne.symm n1)]; exact (World.cell?_of_block (w := w) ob1).trans h.c1
  · rw [hlen]; exact cset_at ((World.cell?_of_block (w := w) ob2).trans h.c2)
  · rw [cset_far (Ne.symm n2)]; exact (World.cell?_of_block (w := w) ob3).trans h.c3
  · rw [fset_any]; exact (World.frozen?_of_block (w := w) ob2).trans (h.f i)
  · rw [hlen, strsV_snocG]
    exact gowns_block own (fun r hr => by injection hr with hr; injection hr with hr; subst hr; exact gheap_far gq.2.1)
  · injection hr with hr; injection hr with hr; subst hr
    exact ⟨Or.inr rfl, gq⟩
  · rw [sz]
    rcases hk with hk | hk
    · have := h.lt k hk; omega
    · rw [hk]; exact hlt
  · rw [sz]; have := h.b; omega
  · rcases hk with hk | hk
    · exact Or.inl hk
    · rcases hat with e | e
      · exact Or.inl (by rw [hk]; exact (h.no q (gown_at h.o e.symm)).1)
      · exact Or.inr (by omega)
  · refine Turn.trans ?_ (Turn.setCell h.s2)
    exact ⟨hg.os, hg.tape, hg.output, by omega, fun k hk hn => old k hk (fun r e h2 => hn (by rw [h2]; exact (h.no r e).1))⟩
theorem QT.mid {B : Nat} {lo : Tx} {most : Int} {p1 p2 p3 : Nat} {out : List Tx} {oa : Option Addr} {oc : Nat} {w w6 : World} {S : Nat → Prop} {o : Obj} (h : QT B lo most p1 p2 p3 out oa oc w S) (hg : (w.alloc o).grownBy w6 (Value.slice oa out.length oc).ownBlock) :
    w6.cell? ⟨p2, 0, none⟩ = some (.slice oa out.length oc) ∧ w6.frozen? ⟨p2, 0, none⟩ = false ∧ ∀ v, (w6.setCell ⟨p2, 0, none⟩ v).cell? ⟨p3, 0, none⟩ = some (.int .i64 most) := by
  have hza : (w.alloc o).heap.size = w.heap.size + 1 := by simp
  have old : ∀ k, k < w.heap.size → (∀ r, oa = some ⟨r, 0, none⟩ → k ≠ r) → w6.heap[k]? = w.heap[k]? := fun k hk hn =>
    (hg.block k (by omega) (fun e => hn k (gown_at h.o e) rfl)).trans (Below.heap_alloc _ _ _ (by omega))
  have ob2 := old p2 (h.lt _ h.s2) (fun r e hq => (h.no r e).2.2.1 hq.symm)
  have ob3 := old p3 (h.lt _ h.s3) (fun r e hq => (h.no r e).2.2.2 hq.symm)
  exact ⟨(World.cell?_of_block (w := w) ob2).trans h.c2, (World.frozen?_of_block (w := w) ob2).trans (h.f 0), fun v => (cset_far (Ne.symm h.n2)).trans ((World.cell?_of_block (w := w) ob3).trans h.c3)⟩
set_option maxHeartbeats 1600000 in
theorem take_any (B : Nat) (lo : Tx) (most : Int) (p1 p2 p3 : Nat) (out : List Tx) (x : Tx) (S : Nat → Prop) (w : World) (h : QTs B lo most p1 p2 p3 out w S) (hl : out.length ≤ 10000) :
    Calls Try.prog 85 #[.string x, .pointer (some ⟨p1, 0, none⟩), .pointer (some ⟨p2, 0, none⟩), .pointer (some ⟨p3, 0, none⟩)] w fun e w' => e = .returned (.bool (decide (((takeO lo out x).length : Int) < most))) ∧ PO (QTs B lo most p1 p2 p3 (takeO lo out x)) w S w' := by
  obtain ⟨oa, oc, hq⟩ := h
  obtain ⟨i0, hi, hz0, hz1, hz2⟩ := info_parts strG_info
  have c1 := hq.c1; have c2 := hq.c2; have c3 := hq.c3; have f0 := hq.f 0
  have Q := Lib.hid hq
  clear hq
  by_cases hc : cmpS x lo < 0
  · have e : takeO lo out x = out := if_pos hc
    rw [e]
    clear e
    have d1 : decide (cmpS x lo ≥ 0) = false := decide_eq_false (by omega)
    go_enter Try.func85, Try.ntmps85
    go_wp2_with (go_at_call 45; refine (compare_any _ _ _).mono ?_; rintro e w' ⟨rfl, rfl⟩)
    go_ret
    exact ⟨rfl, S, ⟨oa, oc, Q.out⟩, fun k hk => Or.inl hk, Turn.refl _ _⟩
  · have e : takeO lo out x = out ++ [x] := if_neg hc
    rw [e, show ((out ++ [x]).length : Int) = (out.length : Int) + 1 by simp]
    clear e
    have d1 : decide (cmpS x lo ≥ 0) = true := decide_eq_true (by omega)
    go_enter Try.func85, Try.ntmps85
    have hba := Q.out.b
    have OW := Lib.hid (Q.out.o)
    go_wp2_with (first | (go_at_call 45; refine (compare_any _ _ _).mono ?_; rintro e w' ⟨rfl, rfl⟩) | (at_builtin; refine wpList_append_lies _ rfl (.tmp 10) (.tmp 12) 22 rfl B 9 i0 _ 1 16 Try.underlying22 hi hz0 hz1 hz2 rfl (by omega) (.slice oa out.length oc) out.length (strsV out) (by rfl) (OW.out.alloc _) ⟨w.heap.size, 0, none⟩ 1 1 [.string x] (by rfl) (by rfl) (World.news_of_block (cs := #[.string x]) (t := 9) (fr := (0, 0)) (heap_alloc_new w _)) (by simp [Value.oneCell']) (by omega) (by unfold maxLen; omega) (by omega) (by simp; omega) (w.heap.size + 1) (by simp) ?_; intro g3 c3' w3 hown3 hgrow3 hat3 hlt3; have GR := Lib.hid (Q.out.grow hown3 hgrow3 (hat3.imp id (fun e => by simp; exact e)) hlt3); obtain ⟨m1, m2, m3⟩ := Q.out.mid hgrow3; clear hown3 hgrow3 hat3 hlt3))
    go_ret
    exact ⟨rfl, GR.out⟩
end Go.Proofs.Ytbimbgcejeeinaa
/- graph: each -/
namespace Go.Proofs.Ytbimbgcejeeinaa
open Go.RowKit
set_option linter.unusedVariables false
set_option maxRecDepth 20000
theorem GAt.edges {g : Nat} {st : List GN} {w : World} {Sg S : Nat → Prop} (h : GAt g st w Sg) (hA : ∀ k, Sg k → ¬ S k) {n : Nat} (hn : n < st.length) : ∃ q nc ea ec, w.cell? ⟨g, 0, none⟩ = some (.slice (some ⟨q, 0, none⟩) st.length nc) ∧ w.cell? ⟨q, n * 2, none⟩ = some (.bool (st.getD n gn0).final) ∧ (∀ w', Turn S w w' → w'.cell? ⟨g, 0, none⟩ = some (.slice (some ⟨q, 0, none⟩) st.length nc) ∧ w'.cell? ⟨q, n * 2 + 1, none⟩ = some (.slice ea (st.getD n gn0).edges.length ec) ∧ HoldsEd w' ea (st.getD n gn0).edges.length (st.getD n gn0).edges) := by
  obtain ⟨na, nc, NL, G, e⟩ := h
  obtain ⟨e1, e2⟩ := map_eqG _ _ e
  have c := G.c
  obtain ⟨q, rfl, c0, c1⟩ := G.at (i := n) (by omega)
  obtain ⟨e3, e4⟩ := e2 n hn
  rw [e1] at c
  rw [e3] at c0
  have ei := G.e _ (mem_nm (show n < NL.length by omega))
  unfold EdIn at ei
  rw [e4] at c1 ei
  exact ⟨q, nc, _, _, c, c0, fun w' t => ⟨(t.cell (lt_of_cell c) (hA _ G.sg)).trans c, (t.cell (lt_of_cell c1) (hA _ (G.sn q rfl).1)).trans c1, holdsEd_blocks ei.1 (fun fb fo e => t.block fb (G.lt fb (ei.2.2.2 fb fo e).1) (hA _ (ei.2.2.2 fb fo e).1))⟩⟩
theorem fol_map {l : List Tx} (h : Run l) (h0 : l ≠ []) (s : Tx) : (folS l).2.map (fun x => (s ++ Utf8.encode ((folS l).1 : Int)) ++ x) = (l.take (folS l).2.length).map (fun x => s ++ x) := by
  obtain ⟨k, hk, h1, h2⟩ := fol_split h0
  rw [← hk, h2, List.map_map]
  refine List.map_congr_left fun u hu => ?_
  have hm : u ∈ l := List.mem_of_mem_take hu
  have hl : labS u = (folS l).1 := by
    rw [h1] at hu
    have h3 := mem_tw (p := fun t => decide (labS t = labS (l.getD 0 ByteArray.empty))) hu
    rw [show labS u = labS (l.getD 0 ByteArray.empty) from of_decide_eq_true h3]
    cases l with
    | nil => exact absurd rfl h0
    | cons a l => rfl
  show (s ++ Utf8.encode ((folS l).1 : Int)) ++ rstS u = s ++ u
  rw [← hl, ByteArray.append_assoc, enc_rst (h.lo u hm) (h.pos u hm)]
theorem drop_ed (l : List EdP) (j : Nat) (h : j < l.length) : l.drop j = l.getD j ed0 :: l.drop (j + 1) := by
  rw [List.drop_eq_getElem_cons h, List.getD_eq_getElem?_getD, List.getElem?_eq_getElem h]; rfl
def Apart (S T : Nat → Prop) : Prop := ∀ k, S k → ¬ T k
def EachAny (B : Nat) (lo : Tx) (most : Int) (g p1 p2 p3 : Nat) (st : List GN) (ts : List Tx) (f : Nat) : Prop := ∀ (k : Nat) (l : List Tx) (s : Tx) (out : List Tx) (Sg S : Nat → Prop) (w : World), (restsG st)[k]? = some l → OkL f l → GAt g st w Sg → QTs B lo most p1 p2 p3 out w S → Apart Sg S → out.length + l.length ≤ 1000 → s.size + 4 * f ≤ 1000 →
    Calls Try.prog 84 #[.pointer (some ⟨g, 0, none⟩), .int .i64 k, .string s, .func (Fn.func 85) #[] #[.pointer (some ⟨p1, 0, none⟩), .pointer (some ⟨p2, 0, none⟩), .pointer (some ⟨p3, 0, none⟩)]] w fun e w' => e = .returned (.bool (takeL lo most out (l.map (s ++ ·))).2) ∧ PO (QTs B lo most p1 p2 p3 (takeL lo most out (l.map (s ++ ·))).1) w S w'
set_option maxHeartbeats 3200000 in
theorem each_step (B : Nat) (lo : Tx) (most : Int) (g p1 p2 p3 : Nat) (st : List GN) (ts : List Tx) (G : GOk st ts) (f : Nat) (IH : ∀ f', f = f' + 1 → EachAny B lo most g p1 p2 p3 st ts f') : EachAny B lo most g p1 p2 p3 st ts f := by
  intro k l s out Sg S w hR hO hG hQ hA hn hsz
  obtain ⟨hk, hr, hN⟩ := G.node hR
  obtain ⟨q, nc, ea, ec, c0, c1, hT⟩ := hG.edges hA hk
  have i1 : (0 : Int) ≤ (k : Int) := by omega
  have i2 : (k : Int) < (st.length : Int) := by omega
  have hfin := hN.fin
  rw [hr] at hfin
  have hed := hN.ed
  rw [hr] at hed
  obtain ⟨es, hes⟩ : ∃ b, (st.getD k gn0).edges = b := ⟨_, rfl⟩
  rw [hes] at hed hT
  obtain ⟨m, hm⟩ : ∃ m, es.length = m := ⟨_, rfl⟩
  rw [hm] at hT
  obtain ⟨TV, hTV⟩ : ∃ v, takeL lo most out (l.map (s ++ ·)) = v := ⟨_, rfl⟩
  rw [hTV]
  have hm1 : m ≤ 1000 := by have := G.few _ (show st.getD k gn0 ∈ st by rw [List.getD_eq_getElem?_getD, List.getElem?_eq_getElem hk]; simp); rw [hes, hm] at this; omega
  have HT := Lib.hid hT; have HM := Lib.hid hm; have HED := Lib.hid hed; have HTV := Lib.hid hTV; have GH := Lib.hid hG; have AH := Lib.hid hA; have OB := Lib.hid hO.bod; have BP := Lib.hid (bod_pos hO.ord); have QH := Lib.hid hQ; have IHH := Lib.hid IH
  have HN := Lib.hid (show out.length + (bodS l).length ≤ 1000 from by have := bod_len l; omega)
  clear hT hes hm hed hTV hG hA hO hQ IH hN hr hR
  cases hb : finS l with
  | false =>
    rw [hb] at hfin
    rw [hfin] at c1
    have c2 := (HT.out w (Turn.refl _ _)).2.1
    have HTV2 := Lib.hid (show takeL lo most out ((bodS l).map (s ++ ·)) = TV from by rw [← HTV.out]; unfold bodS; rw [hb]; rfl)
    clear hfin hb HTV
    go_enter Try.func84, Try.ntmps84
    go_wp2_with fail
    clear c0 c1 c2
    go_loopw [34] (fun iv wr => ∃ (j : Nat) (l' out' : List Tx) (S' : Nat → Prop), j ≤ m ∧ iv = .int .i64 j ∧ Hid (EdOk (restsG st) l' (es.drop j)) ∧ Hid (OkL f l') ∧ Hid (∀ t ∈ l', 0 < t.size) ∧ Hid (takeL lo most out' (l'.map (s ++ ·)) = TV) ∧ Hid (out'.length + l'.length ≤ 1000) ∧ Hid (QTs B lo most p1 p2 p3 out' wr S') ∧ Hid (∀ k, S' k → S k ∨ w.heap.size ≤ k) ∧ Hid (Turn S w wr)) (fun iv _ => m - (intOf iv).toNat)
    case atStart => exact ⟨0, bodS l, out, S, by omega, rfl, HED, OB, BP, HTV2, HN, QH, Lib.hid (fun k hk => Or.inl hk), Lib.hid (Turn.refl _ _)⟩
    case round =>
      obtain ⟨j, l', out', S', hj, rfl, hE, hO', hP, hV, hL, hQ', hS, hT⟩ := hrel
      by_cases hlt : j < m
      · obtain ⟨d0, d1, d2⟩ := HT.out wr hT.out
        obtain ⟨b, o, rfl, hc⟩ := d2.at (by omega)
        have x0 := hc j hlt
        have hE1 := hE.out
        rw [drop_ed es j (by have := HM.out; omega)] at hE1
        obtain ⟨hne, hr1, ⟨k', hd1, hR1⟩, hE2⟩ := hE1
        obtain ⟨x1, x2⟩ := x0
        rw [hr1] at x1
        rw [hd1] at x2
        obtain ⟨hf1, hf2⟩ := fol_len l' hne
        have hRun : Run l' := ⟨hO'.out.ord, hP.out, hO'.out.lo⟩
        have hmap := fol_map hRun hne s
        obtain ⟨kk, hkk⟩ : ∃ kk, (folS l').2.length = kk := ⟨_, rfl⟩
        rw [hkk] at hE2 hf1 hf2 hmap
        obtain ⟨f', rfl⟩ : ∃ f', f = f' + 1 := by
          cases l' with
          | nil => exact absurd rfl hne
          | cons t l2 =>
            have h1 := rst_len (hO'.out.lo t (by simp)) (hP.out t (by simp))
            have h2 := hO'.out.hi t (by simp)
            exact ⟨f - 1, by omega⟩
        have hof := hO'.out.fol hP.out
        obtain ⟨lb, hlb⟩ : ∃ v, (folS l').1 = v := ⟨_, rfl⟩
        obtain ⟨fl, hfl⟩ : ∃ v, (folS l').2 = v := ⟨_, rfl⟩
        rw [hlb] at x1 hmap
        rw [hfl] at hmap hR1 hof hkk
        have hz4 := encode_size_le (lb : Int)
        have hsz2 : (s ++ Utf8.encode (lb : Int)).size + 4 * f' ≤ 1000 := by rw [ByteArray.size_append]; omega
        have hszm : s.size + (Utf8.encode (lb : Int)).size ≤ 1000 := by omega
        have BE := Lib.hid (below_one wr (.cells #[.int .i32 (lb : Int), .int .i64 (k' : Int)] 115))
        have CE := Lib.hid (IHH.out f' rfl k' fl (s ++ Utf8.encode (lb : Int)) out' Sg S' (wr.alloc (.cells #[.int .i32 (lb : Int), .int .i64 (k' : Int)] 115)) hR1 hof ((gAt_ok g st).below ((gAt_ok g st).turn GH.out hT.out AH.out) BE.out) ((qts_ok B lo most p1 p2 p3 out').below hQ'.out BE.out) (fun q hq hq2 => by
          rcases hS.out q hq2 with h1 | h1
          · exact AH.out q hq h1
          · have := (gAt_ok g st).lt GH.out q hq; omega) (by have := hL.out; omega) hsz2)
        rw [hmap] at CE
        have hV2 := hV.out
        rw [← List.take_append_drop kk l', List.map_append, takeL_app] at hV2
        have hLL := takeL_len lo most ((l'.take kk).map (s ++ ·)) out'
        rw [List.length_map, List.length_take] at hLL
        obtain ⟨RV, hRV⟩ : ∃ v, takeL lo most out' ((l'.take kk).map (s ++ ·)) = v := ⟨_, rfl⟩
        rw [hRV] at hV2 CE hLL
        obtain ⟨ro, rb⟩ := RV
        simp only at hV2 CE hLL
        have V2 := Lib.hid hV2
        have E2 := Lib.hid hE2
        have LL := Lib.hid hLL
        have hTB := Lib.hid (hT.out.trans (Turn.of_below BE.out))
        have hk1 := Lib.hid hf1
        have hk2 := Lib.hid hf2
        have n1 : (0 : Int) ≤ (j : Int) := by omega
        have n2 : (j : Int) < (m : Int) := by omega
        clear hc d0 d1 d2 hr1 hd1 hR1 hE2 hne hRun hmap hkk hof hlb hfl hz4 hsz2 hV2 hLL hRV hf1 hf2
        go_wp2_with fail
        refine CE.out.mono ?_
        rintro e w4 ⟨rfl, S4, q4, s4, t4⟩
        have Q4 := Lib.hid q4
        have S4H := Lib.hid (show ∀ q, S4 q → S q ∨ w.heap.size ≤ q from fun q hq => by
          rcases s4 q hq with h1 | h1
          · exact hS.out q h1
          · have := hT.out.size; have := BE.out.size; exact Or.inr (by omega))
        have T4 := Lib.hid (hTB.out.trans' t4 (fun q hq => hS.out q hq))
        clear q4 s4 t4 CE
        cases rb with
        | true =>
          have V3 := V2.out
          rw [if_pos rfl] at V3
          have V4 := Lib.hid V3
          clear V3 V2
          go_wp2_with fail
          go_roundw
          case rel => exact ⟨j + 1, l'.drop kk, ro, S4, by omega, by go_num, E2, Lib.hid (hO'.out.drop _), Lib.hid (fun t ht => hP.out t (List.mem_of_mem_drop ht)), V4, Lib.hid (by have := LL.out; have := hL.out; have := hk2.out; rw [List.length_drop]; omega), Q4, S4H, T4⟩
          case measure => simp [intOf] <;> omega
        | false =>
          have V3 := V2.out
          rw [if_neg (by simp)] at V3
          subst V3
          go_wp2_with fail
          go_ret
          exact ⟨rfl, S4, Q4.out, S4H.out, T4.out⟩
      · obtain rfl : j = m := by omega
        have hE2 := hE.out
        rw [List.drop_of_length_le (by have := HM.out; omega)] at hE2
        obtain rfl : l' = [] := hE2
        obtain rfl : (out', true) = TV := hV.out
        go_wp2_with fail
        go_ret
        exact ⟨rfl, S', hQ'.out, hS.out, hT.out⟩
  | true =>
    rw [hb] at hfin
    rw [hfin] at c1
    have hhd : l.head? = some (⟨#[]⟩ : ByteArray) := of_decide_eq_true hb
    obtain ⟨o2, ho2⟩ : ∃ v, takeO lo out s = v := ⟨_, rfl⟩
    have hLB : l.map (s ++ ·) = s :: (bodS l).map (s ++ ·) ∧ l.length = (bodS l).length + 1 := by
      unfold bodS
      rw [hb, if_pos rfl]
      cases l with
      | nil => cases hhd
      | cons t l2 =>
        rw [List.head?_cons] at hhd
        injection hhd with hhd
        subst hhd
        refine ⟨?_, rfl⟩
        rw [List.map_cons, List.tail_cons]
        congr 1
        exact ByteArray.append_empty
    have hol : o2.length ≤ out.length + 1 := ho2 ▸ takeO_len lo out s
    have HN2 := Lib.hid (show o2.length + (bodS l).length ≤ 1000 from by have := hLB.2; omega)
    have hTV3 : (if (o2.length : Int) < most then takeL lo most o2 ((bodS l).map (s ++ ·)) else (o2, false)) = TV := by
      rw [← HTV.out, hLB.1, takeL, ho2]
    have CT := Lib.hid (take_any B lo most p1 p2 p3 out s S w QH.out (by omega))
    rw [ho2] at CT
    clear hfin hb HTV hhd hLB hol ho2
    by_cases hmo : (o2.length : Int) < most
    · rw [decide_eq_true hmo] at CT
      rw [if_pos hmo] at hTV3
      have HTV2 := Lib.hid hTV3
      clear hTV3 hmo
      go_enter Try.func84, Try.ntmps84
      go_wp2_with fail
      refine CT.out.mono ?_
      rintro e w1 ⟨rfl, S1, q1, s1, t1⟩
      have Q1 := Lib.hid q1; have S1H := Lib.hid s1; have T1 := Lib.hid t1
      obtain ⟨d0, d1, -⟩ := HT.out w1 t1
      clear q1 s1 t1 CT c0 c1
      go_wp2_with fail
      clear d0 d1
      go_loopw [34] (fun iv wr => ∃ (j : Nat) (l' out' : List Tx) (S' : Nat → Prop), j ≤ m ∧ iv = .int .i64 j ∧ Hid (EdOk (restsG st) l' (es.drop j)) ∧ Hid (OkL f l') ∧ Hid (∀ t ∈ l', 0 < t.size) ∧ Hid (takeL lo most out' (l'.map (s ++ ·)) = TV) ∧ Hid (out'.length + l'.length ≤ 1000) ∧ Hid (QTs B lo most p1 p2 p3 out' wr S') ∧ Hid (∀ k, S' k → S k ∨ w.heap.size ≤ k) ∧ Hid (Turn S w wr)) (fun iv _ => m - (intOf iv).toNat)
      case atStart => exact ⟨0, bodS l, o2, S1, by omega, rfl, HED, OB, BP, HTV2, HN2, Q1, S1H, T1⟩
      case round =>
        obtain ⟨j, l', out', S', hj, rfl, hE, hO', hP, hV, hL, hQ', hS, hT⟩ := hrel
        by_cases hlt : j < m
        · obtain ⟨d0, d1, d2⟩ := HT.out wr hT.out
          obtain ⟨b, o, rfl, hc⟩ := d2.at (by omega)
          have x0 := hc j hlt
          have hE1 := hE.out
          rw [drop_ed es j (by have := HM.out; omega)] at hE1
          obtain ⟨hne, hr1, ⟨k', hd1, hR1⟩, hE2⟩ := hE1
          obtain ⟨x1, x2⟩ := x0
          rw [hr1] at x1
          rw [hd1] at x2
          obtain ⟨hf1, hf2⟩ := fol_len l' hne
          have hRun : Run l' := ⟨hO'.out.ord, hP.out, hO'.out.lo⟩
          have hmap := fol_map hRun hne s
          obtain ⟨kk, hkk⟩ : ∃ kk, (folS l').2.length = kk := ⟨_, rfl⟩
          rw [hkk] at hE2 hf1 hf2 hmap
          obtain ⟨f', rfl⟩ : ∃ f', f = f' + 1 := by
            cases l' with
            | nil => exact absurd rfl hne
            | cons t l2 =>
              have h1 := rst_len (hO'.out.lo t (by simp)) (hP.out t (by simp))
              have h2 := hO'.out.hi t (by simp)
              exact ⟨f - 1, by omega⟩
          have hof := hO'.out.fol hP.out
          obtain ⟨lb, hlb⟩ : ∃ v, (folS l').1 = v := ⟨_, rfl⟩
          obtain ⟨fl, hfl⟩ : ∃ v, (folS l').2 = v := ⟨_, rfl⟩
          rw [hlb] at x1 hmap
          rw [hfl] at hmap hR1 hof hkk
          have hz4 := encode_size_le (lb : Int)
          have hsz2 : (s ++ Utf8.encode (lb : Int)).size + 4 * f' ≤ 1000 := by rw [ByteArray.size_append]; omega
          have hszm : s.size + (Utf8.encode (lb : Int)).size ≤ 1000 := by omega
          have BE := Lib.hid (below_one wr (.cells #[.int .i32 (lb : Int), .int .i64 (k' : Int)] 115))
          have CE := Lib.hid (IHH.out f' rfl k' fl (s ++ Utf8.encode (lb : Int)) out' Sg S' (wr.alloc (.cells #[.int .i32 (lb : Int), .int .i64 (k' : Int)] 115)) hR1 hof ((gAt_ok g st).below ((gAt_ok g st).turn GH.out hT.out AH.out) BE.out) ((qts_ok B lo most p1 p2 p3 out').below hQ'.out BE.out) (fun q hq hq2 => by
            rcases hS.out q hq2 with h1 | h1
            · exact AH.out q hq h1
            · have := (gAt_ok g st).lt GH.out q hq; omega) (by have := hL.out; omega) hsz2)
          rw [hmap] at CE
          have hV2 := hV.out
          rw [← List.take_append_drop kk l', List.map_append, takeL_app] at hV2
          have hLL := takeL_len lo most ((l'.take kk).map (s ++ ·)) out'
          rw [List.length_map, List.length_take] at hLL
          obtain ⟨RV, hRV⟩ : ∃ v, takeL lo most out' ((l'.take kk).map (s ++ ·)) = v := ⟨_, rfl⟩
          rw [hRV] at hV2 CE hLL
          obtain ⟨ro, rb⟩ := RV
          simp only at hV2 CE hLL
          have V2 := Lib.hid hV2
          have E2 := Lib.hid hE2
          have LL := Lib.hid hLL
          have hTB := Lib.hid (hT.out.trans (Turn.of_below BE.out))
          have hk1 := Lib.hid hf1
          have hk2 := Lib.hid hf2
          have n1 : (0 : Int) ≤ (j : Int) := by omega
          have n2 : (j : Int) < (m : Int) := by omega
          clear hc d0 d1 d2 hr1 hd1 hR1 hE2 hne hRun hmap hkk hof hlb hfl hz4 hsz2 hV2 hLL hRV hf1 hf2
          go_wp2_with fail
          refine CE.out.mono ?_
          rintro e w4 ⟨rfl, S4, q4, s4, t4⟩
          have Q4 := Lib.hid q4
          have S4H := Lib.hid (show ∀ q, S4 q → S q ∨ w.heap.size ≤ q from fun q hq => by
            rcases s4 q hq with h1 | h1
            · exact hS.out q h1
            · have := hT.out.size; have := BE.out.size; exact Or.inr (by omega))
          have T4 := Lib.hid (hTB.out.trans' t4 (fun q hq => hS.out q hq))
          clear q4 s4 t4 CE
          cases rb with
          | true =>
            have V3 := V2.out
            rw [if_pos rfl] at V3
            have V4 := Lib.hid V3
            clear V3 V2
            go_wp2_with fail
            go_roundw
            case rel => exact ⟨j + 1, l'.drop kk, ro, S4, by omega, by go_num, E2, Lib.hid (hO'.out.drop _), Lib.hid (fun t ht => hP.out t (List.mem_of_mem_drop ht)), V4, Lib.hid (by have := LL.out; have := hL.out; have := hk2.out; rw [List.length_drop]; omega), Q4, S4H, T4⟩
            case measure => simp [intOf] <;> omega
          | false =>
            have V3 := V2.out
            rw [if_neg (by simp)] at V3
            subst V3
            go_wp2_with fail
            go_ret
            exact ⟨rfl, S4, Q4.out, S4H.out, T4.out⟩
        · obtain rfl : j = m := by omega
          have hE2 := hE.out
          rw [List.drop_of_length_le (by have := HM.out; omega)] at hE2
          obtain rfl : l' = [] := hE2
          obtain rfl : (out', true) = TV := hV.out
          go_wp2_with fail
          go_ret
          exact ⟨rfl, S', hQ'.out, hS.out, hT.out⟩
    · rw [decide_eq_false hmo] at CT
      rw [if_neg hmo] at hTV3
      subst hTV3
      clear hmo
      go_enter Try.func84, Try.ntmps84
      go_wp2_with fail
      refine CT.out.mono ?_
      rintro e w1 ⟨rfl, hpo⟩
      go_wp2_with fail
      go_ret
      exact ⟨rfl, hpo⟩
theorem each_any (B : Nat) (lo : Tx) (most : Int) (g p1 p2 p3 : Nat) (st : List GN) (ts : List Tx) (G : GOk st ts) : ∀ f, EachAny B lo most g p1 p2 p3 st ts f := by
  intro f
  induction f with
  | zero => exact each_step B lo most g p1 p2 p3 st ts G 0 (fun f' e => by omega)
  | succ f ih => exact each_step B lo most g p1 p2 p3 st ts G (f + 1) (fun f' e => by
      obtain rfl : f = f' := by omega
      exact ih)
end Go.Proofs.Ytbimbgcejeeinaa
/- graph: From, Words -/
namespace Go.Proofs.Ytbimbgcejeeinaa
open Go.RowKit
set_option linter.unusedVariables false
set_option maxRecDepth 20000
def fromL (ts : List Tx) (lo : Tx) (most : Int) : List Tx := (ts.filter (fun t => !decide (cmpS t lo < 0))).take most.toNat
theorem takeL_from (lo : Tx) (most : Int) : ∀ (ts out : List Tx), (out.length : Int) < most → (takeL lo most out ts).1 = out ++ (ts.filter (fun t => !decide (cmpS t lo < 0))).take (most - out.length).toNat
  | [], out, _ => by simp [takeL]
  | x :: l, out, h => by
    rw [takeL]
    by_cases hc : cmpS x lo < 0
    · have e : takeO lo out x = out := if_pos hc
      rw [e, if_pos h, takeL_from lo most l out h, List.filter_cons_of_neg (by simpa using hc)]
    · have e : takeO lo out x = out ++ [x] := if_neg hc
      have hl : (out ++ [x]).length = out.length + 1 := by simp
      rw [e, List.filter_cons_of_pos (by simpa using hc), show (most - (out.length : Int)).toNat = (most - ((out.length : Int) + 1)).toNat + 1 by omega, List.take_succ_cons]
      by_cases hm : ((out ++ [x]).length : Int) < most
      · rw [if_pos hm, takeL_from lo most l (out ++ [x]) hm, hl, List.append_assoc]
        simp
      · rw [if_neg hm]
        rw [hl] at hm
        rw [show (most - ((out.length : Int) + 1)).toNat = 0 by omega]
        simp
theorem from_takeL (ts : List Tx) (lo : Tx) (most : Int) (h : 1 ≤ most) : (takeL lo most [] (ts.map (fun x => (⟨#[]⟩ : ByteArray) ++ x))).1 = fromL ts lo most := by
  have e : ts.map (fun x => (⟨#[]⟩ : ByteArray) ++ x) = ts := by
    conv => rhs; rw [← List.map_id ts]
    exact List.map_congr_left fun a _ => ByteArray.empty_append
  rw [e, takeL_from lo most ts [] (by simp; omega)]
  simp [fromL]
def RetTx (w : World) (ts : List Tx) (e : Ending) (w' : World) : Prop := ∃ a c, e = .returned (.slice a ts.length c) ∧ w'.ownsRow w.heap.size 9 1 (.slice a ts.length c) ts.length (strsV ts) ∧ Below w.heap.size w w'
theorem qt_start (w : World) (lo : Tx) (most : Int) (t1 t2 t3 : TypeId) : QTs w.heap.size lo most w.heap.size (w.heap.size + 1 + 1) (w.heap.size + 1) [] (((w.alloc (Obj.cells #[Value.string lo] t1)).alloc (Obj.cells #[Value.int IntKind.i64 most] t2)).alloc (Obj.cells #[Value.slice none 0 0] t3)) (fun k => w.heap.size ≤ k ∧ k < w.heap.size + 3) := by
  have hb := Below.heap_alloc ((w.alloc (Obj.cells #[Value.string lo] t1)).alloc (Obj.cells #[Value.int IntKind.i64 most] t2)) (Obj.cells #[Value.slice none 0 0] t3)
  have hc := Below.heap_alloc (w.alloc (Obj.cells #[Value.string lo] t1)) (Obj.cells #[Value.int IntKind.i64 most] t2)
  have b0 := (hb w.heap.size (by simp; omega)).trans (hc w.heap.size (by simp))
  have b1 := hb (w.heap.size + 1) (by simp)
  refine ⟨none, 0, ⟨?_, ?_, ?_, fun i => ?_, World.ownsRow_nil _ _ _ _, ⟨by omega, by omega⟩, ⟨by omega, by omega⟩, ⟨by omega, by omega⟩, by omega, by omega, fun q hq => by (cases hq), fun k hk => ?_, ?_⟩⟩
  · rw [World.cell?_of_block (w := w.alloc (Obj.cells #[Value.string lo] t1)) b0, World.cell?_alloc_at _ _ _ _ rfl]; rfl
  · rw [World.cell?_alloc_at _ _ _ _ (by simp)]; rfl
  · rw [World.cell?_of_block (w := (w.alloc (Obj.cells #[Value.string lo] t1)).alloc (Obj.cells #[Value.int IntKind.i64 most] t2)) b1, World.cell?_alloc_at _ _ _ _ (by simp)]; rfl
  · rw [World.frozen?_alloc_at _ _ _ _ (by simp)]
  · simp; omega
  · simp; omega
set_option maxHeartbeats 1600000 in
theorem gFrom_any (g : Nat) (st : List GN) (ts : List Tx) (G : GOk st ts) (S : Nat → Prop) (lo : Tx) (most : Int) (w : World) (h : GAt g st w S) : Calls Try.prog 52 #[.pointer (some ⟨g, 0, none⟩), .string lo, .int .i64 most] w (RetTx w (fromL ts lo most)) := by
  obtain ⟨h00, hr0, hN0⟩ := G.node G.root
  have hb : hasG st 0 = true := decide_eq_true (by omega)
  have CH := Lib.hid (fun w (h : GAt g st w S) => gHas_any g st S 0 w h)
  rw [hb] at CH
  have GH := Lib.hid h
  have AB := Lib.hid (fun (t1 t2 t3 : TypeId) => show Below w.heap.size w (((w.alloc (Obj.cells #[Value.string lo] t1)).alloc (Obj.cells #[Value.int IntKind.i64 most] t2)).alloc (Obj.cells #[Value.slice none 0 0] t3)) from (below_one _ _).trans (((below_one _ _).mono (by simp)).trans ((below_one _ _).mono (by simp; omega))))
  clear hb
  by_cases hm : most < 1
  · have e : fromL ts lo most = [] := by unfold fromL; rw [show most.toNat = 0 by omega]; rfl
    have d1 : decide (most < 1) = true := decide_eq_true hm
    rw [e]
    clear e
    go_enter Try.func52, Try.ntmps52
    go_wp2_with fail
    refine (CH.out _ ((gAt_ok g st).below GH.out (AB.out _ _ _))).mono ?_
    rintro e w1 ⟨rfl, rfl⟩
    go_wp2_with fail
    go_ret
    exact ⟨none, 0, rfl, World.ownsRow_nil _ _ _ _, AB.out _ _ _⟩
  · have hm1 : 1 ≤ most := by omega
    have d1 : decide (most < 1) = false := decide_eq_false hm
    have hLt := (gAt_ok g st).lt h
    have CE := Lib.hid (fun (t1 t2 t3 : TypeId) => each_any w.heap.size lo most g w.heap.size (w.heap.size + 1 + 1) (w.heap.size + 1) st ts G 12 0 ts ⟨#[]⟩ [] S (fun k => w.heap.size ≤ k ∧ k < w.heap.size + 3) _ G.root (hr0 ▸ hN0.ok) ((gAt_ok g st).below h (AB.out t1 t2 t3)) (qt_start w lo most t1 t2 t3) (fun k hk hk2 => by have := hLt k hk; omega) (by have := hN0.ok.n; rw [hr0] at this; simp only [List.length_nil]; omega) (by simp [ByteArray.size]))
    rw [from_takeL ts lo most hm1] at CE
    clear h hLt hN0 hr0
    go_enter Try.func52, Try.ntmps52
    go_wp2_with fail
    refine (CH.out _ ((gAt_ok g st).below GH.out (AB.out _ _ _))).mono ?_
    rintro e w1 ⟨rfl, rfl⟩
    go_wp2_with fail
    refine (CE.out _ _ _).mono ?_
    rintro e w2 ⟨rfl, S2, ⟨oa, oc, q2⟩, s2, t2⟩
    have c2 := q2.c2
    have HB := Lib.hid ((AB.out _ _ _).trans (t2.below (fun k hk => hk.1) (by simp; omega)))
    have Q2 := Lib.hid q2
    clear q2 s2 t2 CE
    go_wp2_with fail
    go_ret
    exact ⟨oa, oc, rfl, Q2.out.o, HB.out⟩
theorem gWords_any (g : Nat) (st : List GN) (ts : List Tx) (G : GOk st ts) (S : Nat → Prop) (w : World) (h : GAt g st w S) : Calls Try.prog 31 #[.pointer (some ⟨g, 0, none⟩)] w (RetTx w (fromL ts ⟨#[]⟩ 60)) := by
  have CH := Lib.hid (gFrom_any g st ts G S ⟨#[]⟩ 60 w h)
  go_enter Try.func31, Try.ntmps31
  go_wp2_with fail
  refine CH.out.mono ?_
  rintro e w1 ⟨a, c, rfl, ho, hb⟩
  go_wp2_with fail
  go_ret
  exact ⟨a, c, rfl, ho, hb⟩
theorem words_all {ts : List Tx} (h : ts.length ≤ 60) : fromL ts ⟨#[]⟩ 60 = ts := by
  unfold fromL
  have e : ts.filter (fun t => !decide (cmpS t (⟨#[]⟩ : ByteArray) < 0)) = ts := List.filter_eq_self.2 (fun t _ => by simpa using cmp_empty t)
  rw [e]
  exact List.take_of_length_le (by simpa using h)
end Go.Proofs.Ytbimbgcejeeinaa
/- pack: contracts in the laws' forms; awake -/
namespace Go.Proofs.Ytbimbgcejeeinaa
open Go.RowKit
set_option linter.unusedVariables false
set_option maxRecDepth 20000
theorem decode_yes (a : Option Addr) (n cap : Nat) (bs : List Nat) (ts : List Tx) (st : List GN) {w0 : World} (w : World) (hw : Below w0.heap.size w0 w) (h : HoldsB w a n bs) (hc : n ≤ cap) (hn : n ≤ 1048576) (hd : decS bs = some ts) (hst : grS ts = st) :
    Calls Try.prog 30 #[.slice a n cap] w fun e w' => ∃ g S, e = .returned (.tuple #[.pointer (some ⟨g, 0, none⟩), .int .i64 0]) ∧ CtxG w0 w' g st S ∧ Below w.heap.size w w' := by
  refine (decode_any a n cap bs w h hc hn).mono ?_
  rintro e w' ⟨hb, hr⟩
  rw [hd] at hr
  obtain ⟨g, S, rfl, C⟩ := hr
  subst hst
  exact ⟨g, S, rfl, ⟨C.G, fun k hk => Nat.le_trans hw.size (C.s k hk), hw.trans (hb.mono hw.size)⟩, hb⟩
theorem decode_no (a : Option Addr) (n cap : Nat) (bs : List Nat) (x : Int) (w : World) (h : HoldsB w a n bs) (hc : n ≤ cap) (hn : n ≤ 1048576) (hd : decS bs = none) (hx : (if openB bs then (8 : Int) else 9) = x) :
    Calls Try.prog 30 #[.slice a n cap] w fun e w' => e = .returned (.tuple #[.pointer none, .int .i64 x]) ∧ Below w.heap.size w w' := by
  refine (decode_any a n cap bs w h hc hn).mono ?_
  rintro e w' ⟨hb, hr⟩
  rw [hd] at hr
  subst hx
  exact ⟨hr, hb⟩
theorem imgB_lt (st : List GN) : ∀ b ∈ imgB st, b < 256 := sealB_lt _ (bodyB_lt _)
/-- Of, its bytes named -/
theorem pOf_c (a : Option Addr) (n cap : Nat) (ts : List Tx) (I : List Nat) (m : Nat) {w0 : World} (w : World) (hw : Below w0.heap.size w0 w) (hh : HoldsT w a n ts) (hc : n ≤ cap) (hn : n ≤ 9223372036854775807) (hv : goodV ts = 0) (hI : imgB (grS ts) = I) (hm : I.length = m) :
    Calls Try.prog 36 #[.slice a n cap] w fun e w' => ∃ a' c', e = .returned (.tuple #[.slice a' m c', .int .i64 0]) ∧ w'.ownsRow w0.heap.size 5 1 (.slice a' m c') m (bytesV I) ∧ HoldsB w' a' m I ∧ m ≤ c' ∧ Below w0.heap.size w0 w' ∧ Below w.heap.size w w' := by
  subst hI hm
  refine (pOf_good a n cap ts w hh hc hn (fun t ht => by have := good_sizes hv t ht; omega) hv).mono ?_
  rintro e w' ⟨a2, c2, rfl, h1, h2, -⟩
  exact ⟨a2, c2, rfl, base_less9 h1 hw.size, holdsB_of_values (owns_holds h1) (imgB_lt _), (owns_none h1).2, hw.trans (h2.mono hw.size), h2⟩
/-- Encode of the words' graph, its bytes named -/
theorem encode_c (ts : List Tx) (st : List GN) (I : List Nat) (m : Nat) (hst : grS ts = st) {w0 : World} {g : Nat} {S : Nat → Prop} (w : World) (c : CtxG w0 w g st S) (hv : goodV ts = 0) (hI : imgB st = I) (hm : I.length = m) :
    Calls Try.prog 50 #[.pointer (some ⟨g, 0, none⟩)] w fun e w' => ∃ a' c', e = .returned (.tuple #[.slice a' m c', .int .i64 0]) ∧ HoldsB w' a' m I ∧ m ≤ c' ∧ Below w.heap.size w w' ∧ w'.ownsRow w.heap.size 5 1 (.slice a' m c') m (bytesV I) := by
  subst hI hm hst
  refine (encode_of g ts S w c.G hv (fun t ht => by have := good_sizes hv t ht; omega)).mono ?_
  rintro e w' ⟨a2, c2, rfl, h1, h2, -⟩
  exact ⟨a2, c2, rfl, holdsB_of_values (owns_holds h1) (imgB_lt _), (owns_none h1).2, h2, h1⟩
theorem imgB_len {ts : List Tx} (h : goodV ts = 0) : 10 ≤ (imgB (grS ts)).length ∧ (imgB (grS ts)).length ≤ 524004 := by
  obtain ⟨h1, h2⟩ := grS_edges h
  have h3 := bodyB_len h2 (by omega)
  unfold imgB
  rw [sealB_len]
  refine ⟨?_, by omega⟩
  unfold bodyB
  rw [List.length_append, List.length_append, Cod.bytesOf_length]
  simp only [List.length_cons, List.length_nil]
  omega
theorem grS_none : grS [] = [⟨[], false, []⟩] := by
  unfold grS reachF
  rfl
theorem img_none : ∃ I, imgB (grS []) = I ∧ I.length = 13 ∧ I.getD 0 0 = 73 ∧ I.getD 5 0 = 1 ∧ decS I = some [] := by
  refine ⟨imgB (grS []), rfl, ?_, ?_, ?_, decS_img (by decide)⟩
  · rw [grS_none]; unfold imgB; rw [sealB_len]; rfl
  · rw [grS_none]; unfold imgB sealB; rfl
  · rw [grS_none]; unfold imgB sealB; rfl
theorem bytesV_at {I : List Nat} {i : Nat} (h : i < I.length) : (bytesV I).getD i undef = .int .u8 ((I.getD i 0 : Nat) : Int) := by
  unfold bytesV
  simp [List.getD_eq_getElem?_getD, List.getElem?_eq_getElem h]
theorem cell_at9 {w : World} {B : Nat} {q c m : Nat} {I : List Nat} (h : w.ownsRow B 5 1 (.slice (some ⟨q, 0, none⟩) m c) m (bytesV I)) (i : Nat) (hi : i < m) (hl : I.length = m) (v : Nat) (hv : I.getD i 0 = v) : w.cell? ⟨q, i, none⟩ = some (.int .u8 (v : Int)) := by
  have h1 := owns_holds h
  obtain ⟨b, o, e, hc⟩ := h1.2 (by omega)
  injection e with e
  injection e with e1 e2
  subst e1 e2
  have := hc i hi
  rw [Nat.zero_add, bytesV_at (by omega), hv] at this
  exact this
end Go.Proofs.Ytbimbgcejeeinaa
/- place: Image -/
namespace Go.Proofs.Ytbimbgcejeeinaa
open Go.RowKit
set_option linter.unusedVariables false
set_option maxRecDepth 20000
theorem good_filter {ws : List Tx} (h : goodV ws = 0) (p : Tx → Bool) : goodV (ws.filter p) = 0 := by
  obtain ⟨h1, h2, h3⟩ := goodV_zero h
  refine goodV_good ?_ (fun t ht => h2 t (List.mem_filter.1 ht).1) (List.Pairwise.sublist List.filter_sublist h3)
  have := List.length_filter_le p ws
  omega
set_option maxHeartbeats 1600000 in
theorem image_in (c : Cfg) (s : Nat) (zs : List Tx) (I : List Nat) (m : Nat) (w : World) (h : CfgOk w c) (hm : c.may = true) (hs : s < c.kn + 1) (hz : sliceS c.ks c.ws s = zs) (hI : imgB (grS zs) = I) (hl : I.length = m) :
    Calls Try.prog 12 #[.agg #[.slice c.wa c.wn c.wc, .slice c.ka c.kn c.kc, .int .i64 c.W, .int .i64 c.C, .int .i64 c.S, .int .i64 c.B, .int .i64 c.L, .int .i64 c.H, .int .i64 c.F, .int .i64 c.P, .int .i64 c.J, .int .i64 c.N], .int .i64 (s : Int)] w fun e w' => ∃ a' c', e = .returned (.tuple #[.slice a' m c', .int .i64 0]) ∧ w'.ownsRow w.heap.size 5 1 (.slice a' m c') m (bytesV I) ∧ HoldsB w' a' m I ∧ m ≤ c' ∧ Below w.heap.size w w' := by
  have BX := Lib.hid (below_one w (.cells #[.slice c.wa c.wn c.wc, .slice c.ka c.kn c.kc, .int .i64 c.W, .int .i64 c.C, .int .i64 c.S, .int .i64 c.B, .int .i64 c.L, .int .i64 c.H, .int .i64 c.F, .int .i64 c.P, .int .i64 c.J, .int .i64 c.N] 25))
  have IN := Lib.hid (cfgIn_new w c w.heap.size 25 (0, 0) rfl)
  have OK := Lib.hid h
  have hg : goodV zs = 0 := by rw [← hz]; exact good_filter (may_parts hm).1 _
  have l60 := (goodV_zero hg).1
  obtain ⟨k, hk⟩ : ∃ k, zs.length = k := ⟨_, rfl⟩
  have CH := Lib.hid (fun (w1 : World) (hb : Below w.heap.size w w1) => has_any c (s : Int) true w1 (OK.out.below hb) hm (decide_eq_true ⟨by omega, by omega⟩))
  have CW := Lib.hid (fun (w1 : World) (hb : Below w.heap.size w w1) => pwords_any c s k zs w1 (OK.out.below hb) hm hs hz hk)
  have CO := Lib.hid (fun (a' : Option Addr) (c' : Nat) (w1 : World) (hb : Below w.heap.size w w1) (hh : HoldsT w1 a' k zs) (hc : k ≤ c') => pOf_c a' k c' zs I m (w0 := w) w1 hb hh hc (by omega) hg hI hl)
  clear h hm hs hz hI hl hg hk l60
  go_enter Try.func12, Try.ntmps12
  go_upto_region 1 with fail
  generalize w.alloc (.cells #[.slice c.wa c.wn c.wc, .slice c.ka c.kn c.kc, .int .i64 c.W, .int .i64 c.C, .int .i64 c.S, .int .i64 c.B, .int .i64 c.L, .int .i64 c.H, .int .i64 c.F, .int .i64 c.P, .int .i64 c.J, .int .i64 c.N] 25) = w1 at *
  obtain ⟨p, hp⟩ : ∃ p, w.heap.size = p := ⟨_, rfl⟩
  have HP := Lib.hid hp
  rw [hp] at IN
  rw [hp]
  have hI := IN.out
  unfold CfgIn at hI
  obtain ⟨i0, i1, i2, i3, i4, i5, i6, i7, i8, i9, i10, i11⟩ := hI
  have CH1 := Lib.hid (CH.out w1 BX.out)
  clear CH hp
  go_wp2_with fail
  with_reducible refine CH1.out.mono ?_
  rintro e w2 ⟨rfl, hb2⟩
  have B2 := Lib.hid (BX.out.trans (hb2.mono BX.out.size))
  have I2 := Lib.hid (IN.out.below hb2)
  clear hb2 CH1 i0 i1 i2 i3 i4 i5 i6 i7 i8 i9 i10 i11 IN
  have hI := I2.out
  unfold CfgIn at hI
  obtain ⟨i0, i1, i2, i3, i4, i5, i6, i7, i8, i9, i10, i11⟩ := hI
  have CW1 := Lib.hid (CW.out w2 B2.out)
  clear CW
  go_wp2_with fail
  with_reducible refine CW1.out.mono ?_
  rintro e w3 ⟨a3, c3, rfl, L3, hb3⟩
  have B3 := Lib.hid (B2.out.trans (hb3.mono B2.out.size))
  have CO1 := Lib.hid (CO.out a3 c3 w3 B3.out L3.1 L3.2.2)
  clear hb3 L3 CW1 CO i0 i1 i2 i3 i4 i5 i6 i7 i8 i9 i10 i11
  go_wp2_with fail
  with_reducible refine CO1.out.mono ?_
  rintro e w4 ⟨a4, c4, rfl, o4, h4, hc4, b4, -⟩
  have F := Lib.hid (And.intro o4 (And.intro h4 (And.intro hc4 b4)))
  clear o4 h4 hc4 b4 CO1
  go_wp2_with fail
  go_ret2
  exact ⟨a4, c4, rfl, F.out.1, F.out.2.1, F.out.2.2.1, F.out.2.2.2⟩
theorem image_out (c : Cfg) (s : Int) (w : World) (h : CfgOk w c) (hm : c.may = true) (hs : ¬ (0 ≤ s ∧ s < ((c.kn + 1 : Nat) : Int))) :
    Calls Try.prog 12 #[.agg #[.slice c.wa c.wn c.wc, .slice c.ka c.kn c.kc, .int .i64 c.W, .int .i64 c.C, .int .i64 c.S, .int .i64 c.B, .int .i64 c.L, .int .i64 c.H, .int .i64 c.F, .int .i64 c.P, .int .i64 c.J, .int .i64 c.N], .int .i64 s] w fun e w' => e = .returned (.tuple #[.slice none 0 0, .int .i64 4]) ∧ Below w.heap.size w w' := by
  have BX := Lib.hid (below_one w (.cells #[.slice c.wa c.wn c.wc, .slice c.ka c.kn c.kc, .int .i64 c.W, .int .i64 c.C, .int .i64 c.S, .int .i64 c.B, .int .i64 c.L, .int .i64 c.H, .int .i64 c.F, .int .i64 c.P, .int .i64 c.J, .int .i64 c.N] 25))
  have CH := Lib.hid (has_any c s false _ (h.below BX.out) hm (decide_eq_false hs))
  clear h hm hs
  go_enter Try.func12, Try.ntmps12
  go_wp2_with fail
  with_reducible refine CH.out.mono ?_
  rintro e w2 ⟨rfl, hb2⟩
  have B2 := Lib.hid (BX.out.trans (hb2.mono BX.out.size))
  clear hb2 CH
  go_wp2_with fail
  go_ret2
  exact ⟨rfl, B2.out⟩
end Go.Proofs.Ytbimbgcejeeinaa
/- pack: an image tells its words -/
namespace Go.Proofs.Ytbimbgcejeeinaa
open Go.RowKit
set_option linter.unusedVariables false
set_option maxRecDepth 20000
theorem gWords_c9 (ts : List Tx) (m : Nat) {st : List GN} (G : GOk st ts) (hl : ts.length ≤ 60) (hm : ts.length = m) {w0 : World} {g : Nat} {S : Nat → Prop} (w : World) (c : CtxG w0 w g st S) :
    Calls Try.prog 31 #[.pointer (some ⟨g, 0, none⟩)] w fun e w' => ∃ a' c', e = .returned (.slice a' m c') ∧ HoldsT w' a' m ts ∧ Below w.heap.size w w' := by
  subst hm
  have h := gWords_any g st ts G S w c.G
  rw [words_all hl] at h
  refine h.mono ?_
  rintro e w' ⟨a, c2, rfl, ho, hb⟩
  exact ⟨a, c2, rfl, HoldsT.own ho, hb⟩
theorem sameT_yes9 (a1 a2 : Option Addr) (n c1 c2 : Nat) (z : List Tx) (w : World) (h1 : HoldsT w a1 n z) (h2 : HoldsT w a2 n z) (hl : n ≤ 1048576) :
    Calls Try.prog 21 #[.slice a1 n c1, .slice a2 n c2] w fun e w' => e = .returned (.bool true) ∧ Below w.heap.size w w' := sameTexts_yes a1 a2 n c1 c2 z w h1 h2 (by omega)
theorem sameB_yes9 (a1 a2 : Option Addr) (n c1 c2 : Nat) (z : List Nat) (w : World) (h1 : HoldsB w a1 n z) (h2 : HoldsB w a2 n z) (hl : n ≤ 1048576) :
    Calls Try.prog 23 #[.slice a1 n c1, .slice a2 n c2] w fun e w' => e = .returned (.bool true) ∧ Below w.heap.size w w' := by
  have := sameB_any a1 a2 n c1 n c2 z z w h1 h2 (by omega) (by omega)
  rw [decide_eq_true rfl] at this
  refine this.mono ?_
  rintro e w' ⟨rfl, m, rfl⟩
  exact ⟨rfl, below_drewN _ _⟩
end Go.Proofs.Ytbimbgcejeeinaa
