/- msg: what was laid is read again: plain -/
import Derived.Test.YthboiklcjpnhbaaMb4
import Derived.Test.YthboiklcjpnhbaaFs4
namespace Go.Proofs.Ythboiklcjpnhbaa
open Go.RowKit
set_option linter.unusedVariables false
set_option maxRecDepth 20000
def Rdy (bs rest : List Nat) (r : RS) : Prop := ∃ P : List Nat, bs = P ++ rest ∧ r = ⟨P.length, false⟩
theorem rdy_num {bs rest : List Nat} {r : RS} (v s : Nat) (hv : v < 256 ^ s) (h : Rdy bs (Cod.bytesOf v s ++ rest) r) : gNum bs bs.length s r = (v : Int) ∧ Rdy bs rest (rNum bs.length s r) := by
  obtain ⟨P, hb, rfl⟩ := h
  have hl : P.length + s ≤ bs.length := by rw [hb]; simp [Cod.bytesOf_length]
  have ok : okR bs.length P.length s false = true := by unfold okR; simpa using hl
  refine ⟨?_, P ++ Cod.bytesOf v s, by rw [hb, List.append_assoc], ?_⟩
  · unfold gNum numR
    simp only [ok, if_true]
    unfold numN
    rw [hb, List.drop_left, List.take_left' (Cod.bytesOf_length v s), Cod.numOf_bytesOf, Nat.mod_eq_of_lt hv]
  · unfold rNum atR
    simp only [ok, if_true]
    simp [Cod.bytesOf_length]
theorem bits_in (v : Int) (h0 : 0 ≤ v) (h1 : v ≤ 2147483647) : bitsV v = v.toNat := by
  obtain ⟨k, rfl⟩ : ∃ k : Nat, v = (k : Int) := ⟨v.toNat, by omega⟩
  rw [bits_nat9 k (by omega)]
  simp
theorem rdy_n4 {bs rest : List Nat} {r : RS} (v : Int) (h0 : 0 ≤ v) (h1 : v ≤ 2147483647) (h : Rdy bs (n4 v ++ rest) r) : gNum bs bs.length 4 r = v ∧ Rdy bs rest (rNum bs.length 4 r) := by
  unfold n4 at h
  rw [bits_in v h0 h1] at h
  have p4 : (256 : Nat) ^ 4 = 4294967296 := by decide
  have := rdy_num v.toNat 4 (by omega) h
  exact ⟨by rw [this.1]; omega, this.2⟩
theorem rdy_n1 {bs rest : List Nat} {r : RS} (v : Int) (h0 : 0 ≤ v) (h1 : v ≤ 255) (h : Rdy bs (n1 v ++ rest) r) : gNum bs bs.length 1 r = v ∧ Rdy bs rest (rNum bs.length 1 r) := by
  unfold n1 at h
  rw [bits_in v h0 (by omega)] at h
  have p1 : (256 : Nat) ^ 1 = 256 := by decide
  have := rdy_num v.toNat 1 (by omega) h
  exact ⟨by rw [this.1]; omega, this.2⟩
theorem strN_strBM (s : ByteArray) : strN (strB s) = s := by
  apply ByteArray.ext
  apply Array.toList_inj.1
  rw [strN, strOfNums_data, strB, List.map_map, List.map_map]
  conv => rhs; rw [← List.map_id s.data.toList]
  refine List.map_congr_left fun x _ => ?_
  simp
theorem rdy_text {bs rest : List Nat} {r : RS} (t : Tx) (ht : t.size ≤ 65535) (h : Rdy bs (tB t ++ rest) r) : gText bs bs.length r = t ∧ Rdy bs rest (rText bs bs.length r) := by
  obtain ⟨P, hb, rfl⟩ := h
  unfold tB at hb
  rw [cutS_small t ht] at hb
  have p2 : (256 : Nat) ^ 2 = 65536 := by decide
  have hn : numN bs P.length 2 = t.size := by
    unfold numN
    rw [hb, List.append_assoc, List.drop_left, List.take_left' (Cod.bytesOf_length _ _), Cod.numOf_bytesOf, Nat.mod_eq_of_lt (by omega)]
  have hl : P.length + 2 + t.size ≤ bs.length := by rw [hb]; simp [Cod.bytesOf_length, strB_length]; omega
  have ok : okT bs bs.length ⟨P.length, false⟩ = true := by
    unfold okT
    simp only [hn]
    simp; omega
  refine ⟨?_, P ++ (Cod.bytesOf t.size 2 ++ strB t), by rw [hb]; simp only [List.append_assoc], ?_⟩
  · unfold gText
    rw [ok, if_pos rfl]
    unfold textN
    simp only [hn]
    have e : (bs.take (P.length + 2 + t.size)).drop (P.length + 2) = strB t := by
      rw [hb, show P ++ (Cod.bytesOf t.size 2 ++ strB t ++ rest) = (P ++ Cod.bytesOf t.size 2) ++ strB t ++ rest by simp only [List.append_assoc], List.take_left' (by simp only [List.length_append, Cod.bytesOf_length, strB_length]), List.drop_left' (by simp [Cod.bytesOf_length])]
    rw [e, strN_strBM]
  · unfold rText
    rw [ok, if_pos rfl]
    simp [hn, Cod.bytesOf_length, strB_length]
    omega
theorem rdy_flag {bs rest : List Nat} {r : RS} (f : Bool) (h : Rdy bs (fB f ++ rest) r) : gFlag bs bs.length r = f ∧ Rdy bs rest (rNum bs.length 1 r) := by
  unfold fB at h
  have := rdy_n1 _ (by split <;> omega) (by split <;> omega) h
  refine ⟨?_, this.2⟩
  unfold gFlag
  rw [this.1]
  cases f <;> rfl
theorem rdy_item {bs rest : List Nat} {r : RS} (k : KV) (h0 : 0 ≤ k.1) (h1 : k.1 ≤ 255) (hs : k.2.size ≤ 65535) (h : Rdy bs (itB k ++ rest) r) : gItem bs bs.length r = k ∧ Rdy bs rest (rItem bs bs.length r) := by
  unfold itB at h
  rw [List.append_assoc] at h
  obtain ⟨e1, h2⟩ := rdy_n1 k.1 h0 h1 h
  obtain ⟨e2, h3⟩ := rdy_text k.2 hs h2
  exact ⟨by unfold gItem; rw [e1, e2], h3⟩
theorem rItems_back (bs : List Nat) (n : Nat) : ∀ (k : Nat) (r : RS), rItems bs n (k + 1) r = rItems bs n k (rItem bs n r)
  | 0, r => rfl
  | k + 1, r => by
    show rItem bs n (rItems bs n (k + 1) r) = rItem bs n (rItems bs n k (rItem bs n r))
    rw [rItems_back bs n k r]
theorem gItems_back (bs : List Nat) (n : Nat) : ∀ (k : Nat) (r : RS), gItems bs n (k + 1) r = gItem bs n r :: gItems bs n k (rItem bs n r)
  | 0, r => rfl
  | k + 1, r => by
    show gItems bs n (k + 1) r ++ [gItem bs n (rItems bs n (k + 1) r)] = gItem bs n r :: (gItems bs n k (rItem bs n r) ++ [gItem bs n (rItems bs n k (rItem bs n r))])
    rw [gItems_back bs n k r, rItems_back bs n k r]; rfl
theorem rdy_items {bs rest : List Nat} : ∀ (ks : List KV) (r : RS), (∀ k ∈ ks, 0 ≤ k.1 ∧ k.1 ≤ 255 ∧ k.2.size ≤ 65535) → Rdy bs (itsB ks ++ rest) r → gItems bs bs.length ks.length r = ks ∧ Rdy bs rest (rItems bs bs.length ks.length r)
  | [], r, _, h => ⟨rfl, h⟩
  | k :: ks, r, hk, h => by
    have hk0 := hk k (by simp)
    have h1 : Rdy bs (itB k ++ (itsB ks ++ rest)) r := by
      unfold itsB at h ⊢
      rw [List.flatMap_cons, List.append_assoc] at h
      exact h
    obtain ⟨e1, h2⟩ := rdy_item k hk0.1 hk0.2.1 hk0.2.2 h1
    obtain ⟨e2, h3⟩ := rdy_items ks _ (fun x hx => hk x (by simp [hx])) h2
    rw [List.length_cons, gItems_back, rItems_back, e1, e2]
    exact ⟨rfl, h3⟩
def SameM : MsgV → MsgV → Prop
  | .hello a b, .hello c d => a = c ∧ b = d
  | .grant a b c, .grant d e f => a = d ∧ b = e ∧ c = f
  | .ask x, .ask y => x = y
  | .reply x, .reply y => x.slot = y.slot ∧ x.query = y.query ∧ x.shard = y.shard ∧ x.seq = y.seq ∧ x.worker = y.worker ∧ x.epoch = y.epoch ∧ x.items = y.items ∧ x.n = y.n ∧ x.fin = y.fin
  | .stop a b, .stop c d => a = c ∧ b = d
  | _, _ => False
theorem inR_bd {x lo hi : Int} (h : inR x lo hi = true) : lo ≤ x ∧ x ≤ hi := of_decide_eq_true h
theorem mayItem_bd {k : KV} (h : mayItem k = true) : 0 ≤ k.1 ∧ k.1 ≤ 4 ∧ k.2.size ≤ 48 := by
  unfold mayItem at h
  simp only [Bool.and_eq_true, decide_eq_true_eq] at h
  have h1 := inR_bd h.1
  have h2 := h.2
  unfold wordP at h2
  have h3 := size_4 k.2 (by omega)
  exact ⟨h1.1, h1.2, by omega⟩
theorem mayItems_bd {ks : List KV} (h : mayItems ks = true) : ks.length ≤ 5 ∧ ∀ k ∈ ks, 0 ≤ k.1 ∧ k.1 ≤ 4 ∧ k.2.size ≤ 48 := by
  unfold mayItems at h
  simp only [Bool.and_eq_true, decide_eq_true_eq] at h
  refine ⟨h.1, fun k hk => ?_⟩
  obtain ⟨i, hi, rfl⟩ := List.getElem_of_mem hk
  have h2 := h.2
  unfold fitI at h2
  rw [List.all_eq_true] at h2
  have h3 := h2 i (by simpa using hi)
  unfold stepI at h3
  simp only [Bool.and_eq_true] at h3
  rw [List.getD_eq_getElem?_getD, List.getElem?_eq_getElem hi] at h3
  exact mayItem_bd h3.1
theorem mayAfter_bd {f : Bool} {k : KV} (h : mayAfter f k = true) : 0 ≤ k.1 ∧ k.1 ≤ 4 ∧ k.2.size ≤ 48 := by
  unfold mayAfter at h
  cases f
  · simp only [Bool.false_eq_true, if_false] at h
    exact mayItem_bd h
  · simp only [if_true, Bool.and_eq_true, decide_eq_true_eq, List.isEmpty_iff] at h
    have : k.2.size = 0 := by
      have h2 := h.2
      rw [Lib.toList_data] at h2
      show k.2.data.size = 0
      rw [← Array.length_toList, h2]; rfl
    omega
end Go.Proofs.Ythboiklcjpnhbaa
