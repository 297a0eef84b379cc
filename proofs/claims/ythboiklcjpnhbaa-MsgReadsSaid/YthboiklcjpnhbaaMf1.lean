/- messages in the document: what is read of a frame; plain -/
import Derived.Test.YthboiklcjpnhbaaMe6
namespace Go.Proofs.Ythboiklcjpnhbaa
open Go.RowKit
set_option linter.unusedVariables false
set_option maxRecDepth 20000
theorem Rdy.good {bs rest : List Nat} {r : RS} (h : Rdy bs rest r) : r.bad = false := by
  obtain ⟨P, _, rfl⟩ := h; rfl
theorem rdd_n4 {bs rest : List Nat} {r : RS} (v : Int) (h0 : 0 ≤ v) (h1 : v ≤ 2147483647) (h : Rdy bs (n4 v ++ rest) r) : dG bs bs.length 4 r = v ∧ Rdy bs rest (dNum bs.length 4 r) := by
  rw [dG_good h.good, dNum_good h.good]; exact rdy_n4 v h0 h1 h
theorem rdd_n1 {bs rest : List Nat} {r : RS} (v : Int) (h0 : 0 ≤ v) (h1 : v ≤ 255) (h : Rdy bs (n1 v ++ rest) r) : dG bs bs.length 1 r = v ∧ Rdy bs rest (dNum bs.length 1 r) := by
  rw [dG_good h.good, dNum_good h.good]; exact rdy_n1 v h0 h1 h
theorem rdd_text {bs rest : List Nat} {r : RS} (t : Tx) (ht : t.size ≤ 65535) (h : Rdy bs (tB t ++ rest) r) : dTx bs bs.length r = t ∧ Rdy bs rest (dTe bs bs.length r) := by
  rw [dTx_good h.good, dTe_good h.good]; exact rdy_text t ht h
theorem rdd_flag {bs rest : List Nat} {r : RS} (f : Bool) (h : Rdy bs (fB f ++ rest) r) : (dG bs bs.length 1 r == 1) = f ∧ Rdy bs rest (dNum bs.length 1 r) := by
  rw [dG_good h.good, dNum_good h.good]; exact rdy_flag f h
theorem rdd_item {bs rest : List Nat} {r : RS} (k : KV) (h0 : 0 ≤ k.1) (h1 : k.1 ≤ 255) (hs : k.2.size ≤ 65535) (h : Rdy bs (itB k ++ rest) r) : dItem bs bs.length r = k ∧ Rdy bs rest (dIte bs bs.length r) := by
  unfold itB at h
  rw [List.append_assoc] at h
  obtain ⟨e1, h2⟩ := rdd_n1 k.1 h0 h1 h
  obtain ⟨e2, h3⟩ := rdd_text k.2 hs h2
  exact ⟨by unfold dItem; rw [e1, e2], h3⟩
theorem rdd_items {bs rest : List Nat} (ks : List KV) (r : RS) (hk : ∀ k ∈ ks, 0 ≤ k.1 ∧ k.1 ≤ 255 ∧ k.2.size ≤ 65535) (h : Rdy bs (itsB ks ++ rest) r) : ∀ j, j ≤ ks.length → dIl bs bs.length j r = ks.take j ∧ Rdy bs (itsB (ks.drop j) ++ rest) (dIs bs bs.length j r)
  | 0, _ => ⟨by simp [dIl], by simpa [dIs] using h⟩
  | j + 1, hj => by
    obtain ⟨e1, h2⟩ := rdd_items ks r hk h j (by omega)
    rw [List.drop_eq_getElem_cons (by omega)] at h2
    have hm := hk ks[j] (List.getElem_mem (by omega))
    unfold itsB at h2
    rw [List.flatMap_cons, List.append_assoc] at h2
    obtain ⟨e3, h4⟩ := rdd_item ks[j] hm.1 hm.2.1 hm.2.2 h2
    refine ⟨?_, h4⟩
    show dIl bs bs.length j r ++ [dItem bs bs.length (dIs bs bs.length j r)] = _
    rw [e1, e3, List.take_succ_eq_append_getElem (by omega)]
/-- where the fields begin; the kind -/
def ds3 : RS := ⟨3, false⟩
def kdD (bs : List Nat) : Int := ((bs.getD 2 0 : Nat) : Int)
/-- what the document reads of bytes, and where it ends -/
def GotD (bs : List Nat) (n : Nat) (M : MsgV) (s : RS) : Prop :=
  if kdD bs = 1 then M = .hello (dG bs n 4 ds3) (dG bs n 4 (dNum n 4 ds3)) ∧ s = dNum n 4 (dNum n 4 ds3)
  else if kdD bs = 2 then M = .grant (dG bs n 4 ds3) (dG bs n 4 (dNum n 4 ds3)) (dG bs n 4 (dNum n 4 (dNum n 4 ds3))) ∧ s = dNum n 4 (dNum n 4 (dNum n 4 ds3))
  else if kdD bs = 3 then M = .ask (dAsk bs n ds3) ∧ s = dAskS bs n ds3
  else if kdD bs = 4 then ∃ (ia : Option Addr) (m j ic : Nat), dMx bs n ds3 = (m : Int) ∧ j ≤ m ∧ (j = m ∨ (dIs bs n j (dNum n 1 (dRx n ds3))).bad = true) ∧ M = .reply (dRep bs n ds3 ia j ic) ∧ s = dRepS bs n ds3 j
  else if kdD bs = 5 then M = .stop (dG bs n 4 ds3) (dG bs n 4 (dNum n 4 ds3)) ∧ s = dNum n 4 (dNum n 4 ds3)
  else M = .none ∧ s = ds3
theorem dgot_same (M M' : MsgV) (s : RS) (bs : List Nat) (hf : frameM M = bs) (hm : mayM M = true) (hh : ∀ x, M = .reply x → x.items.length = x.n) (h : GotD bs bs.length M' s) : s.bad = false ∧ SameM M M' := by
  have hf2 := hf
  unfold frameM at hf2
  rw [frameB_eq] at hf2
  obtain ⟨tl, htl⟩ : ∃ t, Cod.bytesOf (Crc.sum ((Cod.bytesOf (7 + (bodyM M).length) 2 ++ Cod.bytesOf (kindM M) 1) ++ bodyM M)) 4 = t := ⟨_, rfl⟩
  rw [htl] at hf2
  obtain ⟨hd, hhd⟩ : ∃ t, Cod.bytesOf (7 + (bodyM M).length) 2 = t := ⟨_, rfl⟩
  rw [hhd] at hf2
  have l2 : hd.length = 2 := by rw [← hhd]; exact Cod.bytesOf_length _ _
  have l3 : (hd ++ Cod.bytesOf (kindM M) 1).length = 3 := by rw [List.length_append, l2, Cod.bytesOf_length]
  have ek : kdD bs = (kindM M : Int) := by
    unfold kdD
    rw [← hf2, List.append_assoc, List.getD_eq_getElem?_getD, List.getElem?_append_right (by omega), l2]
    have : kindM M < 256 := by cases M <;> simp [kindM]
    obtain ⟨z, hz⟩ : ∃ z, Cod.bytesOf (kindM M) 1 = z := ⟨_, rfl⟩
    have h1 := Cod.numOf_bytesOf (kindM M) 1
    have h2 := Cod.bytesOf_length (kindM M) 1
    rw [hz] at h1 h2 ⊢
    obtain ⟨b, rfl⟩ := List.length_eq_one_iff.1 h2
    simp [Cod.numOf] at h1 ⊢
    omega
  have r1 : Rdy bs (bodyM M ++ tl) ds3 := ⟨hd ++ Cod.bytesOf (kindM M) 1, by rw [← hf2]; simp only [List.append_assoc], by rw [l3]; rfl⟩
  clear hf hf2 htl hhd l2 l3
  unfold GotD at h
  rw [ek] at h
  cases M with
  | hello a b =>
    rw [show mayM (.hello a b) = mayHello a b from rfl] at hm
    unfold mayHello at hm
    simp only [Bool.and_eq_true] at hm
    have h1 := inR_bd hm.1; have h2 := inR_bd hm.2
    rw [if_pos (by simp [kindM])] at h
    have r1 : Rdy bs (n4 a ++ (n4 b ++ tl)) ds3 := by rw [← ns2]; exact r1
    obtain ⟨e1, r2⟩ := rdd_n4 a (by omega) (by omega) r1
    obtain ⟨e2, r3⟩ := rdd_n4 b (by omega) (by omega) r2
    rw [e1, e2] at h
    obtain ⟨rfl, rfl⟩ := h
    exact ⟨r3.good, rfl, rfl⟩
  | grant a b c =>
    rw [show mayM (.grant a b c) = mayGrant a b c from rfl] at hm
    unfold mayGrant at hm
    simp only [Bool.and_eq_true] at hm
    have h1 := inR_bd hm.1.1; have h2 := inR_bd hm.1.2; have h3 := inR_bd hm.2
    rw [if_neg (by simp [kindM]), if_pos (by simp [kindM])] at h
    have r1 : Rdy bs (n4 a ++ (n4 b ++ (n4 c ++ tl))) ds3 := by
      have e : bodyM (.grant a b c) ++ tl = n4 a ++ (n4 b ++ (n4 c ++ tl)) := by simp [bodyM, nsB]
      rw [← e]; exact r1
    obtain ⟨e1, r2⟩ := rdd_n4 a (by omega) (by omega) r1
    obtain ⟨e2, r3⟩ := rdd_n4 b (by omega) (by omega) r2
    obtain ⟨e3, r4⟩ := rdd_n4 c (by omega) (by omega) r3
    rw [e1, e2, e3] at h
    obtain ⟨rfl, rfl⟩ := h
    exact ⟨r4.good, rfl, rfl, rfl⟩
  | ask x =>
    rw [show mayM (.ask x) = mayAsk x from rfl] at hm
    unfold mayAsk at hm
    simp only [Bool.and_eq_true, decide_eq_true_eq] at hm
    obtain ⟨⟨⟨⟨⟨⟨⟨⟨b0, b1⟩, b2⟩, b3⟩, b4⟩, b5⟩, b6⟩, b7⟩, b8⟩ := hm
    have c0 := inR_bd b0; have c1 := inR_bd b1; have c2 := inR_bd b2; have c3 := inR_bd b3; have c4 := inR_bd b4; have c6 := inR_bd b6; have c7 := inR_bd b7
    have c5 := size_4 x.text b5.1
    have c8 := mayAfter_bd b8
    simp only at c8
    rw [if_neg (by simp [kindM]), if_neg (by simp [kindM]), if_pos (by simp [kindM])] at h
    have r1 : Rdy bs (n4 x.slot ++ (n4 x.query ++ (n4 x.shard ++ (n4 x.seq ++ (n4 x.epoch ++ (tB x.text ++ (n1 x.k ++ (n1 x.batch ++ (fB x.first ++ (n1 x.ad ++ (tB x.aw ++ tl))))))))))) ds3 := by
      have e : bodyM (.ask x) ++ tl = n4 x.slot ++ (n4 x.query ++ (n4 x.shard ++ (n4 x.seq ++ (n4 x.epoch ++ (tB x.text ++ (n1 x.k ++ (n1 x.batch ++ (fB x.first ++ (n1 x.ad ++ (tB x.aw ++ tl)))))))))) := by simp [bodyM, askB, nsB, itB]
      rw [← e]; exact r1
    obtain ⟨e0, r2⟩ := rdd_n4 x.slot (by omega) (by omega) r1
    obtain ⟨e1, r3⟩ := rdd_n4 x.query (by omega) (by omega) r2
    obtain ⟨e2, r4⟩ := rdd_n4 x.shard (by omega) (by omega) r3
    obtain ⟨e3, r5⟩ := rdd_n4 x.seq (by omega) (by omega) r4
    obtain ⟨e4, r6⟩ := rdd_n4 x.epoch (by omega) (by omega) r5
    obtain ⟨e5, r7⟩ := rdd_text x.text (by omega) r6
    obtain ⟨e6, r8⟩ := rdd_n1 x.k (by omega) (by omega) r7
    obtain ⟨e7, r9⟩ := rdd_n1 x.batch (by omega) (by omega) r8
    obtain ⟨e8, r10⟩ := rdd_flag x.first r9
    obtain ⟨e9, r11⟩ := rdd_n1 x.ad (by omega) (by omega) r10
    obtain ⟨e10, r12⟩ := rdd_text x.aw (by omega) r11
    obtain ⟨rfl, rfl⟩ := h
    refine ⟨r12.good, ?_⟩
    show x = dAsk bs bs.length ds3
    simp only [dAsk, e0, e1, e2, e3, e4, e5, e6, e7, e8, e9, e10]
  | reply x =>
    have hx := hh x rfl
    rw [show mayM (.reply x) = mayReply x from rfl] at hm
    unfold mayReply at hm
    simp only [Bool.and_eq_true] at hm
    obtain ⟨⟨⟨⟨⟨⟨b0, b1⟩, b2⟩, b3⟩, b4⟩, b5⟩, b6⟩ := hm
    have c0 := inR_bd b0; have c1 := inR_bd b1; have c2 := inR_bd b2; have c3 := inR_bd b3; have c4 := inR_bd b4; have c5 := inR_bd b5
    obtain ⟨c6, c7⟩ := mayItems_bd b6
    rw [if_neg (by simp [kindM]), if_neg (by simp [kindM]), if_neg (by simp [kindM]), if_pos (by simp [kindM])] at h
    have r1 : Rdy bs (n4 x.slot ++ (n4 x.query ++ (n4 x.shard ++ (n4 x.seq ++ (n4 x.worker ++ (n4 x.epoch ++ (n1 (x.items.length : Int) ++ (itsB x.items ++ (fB x.fin ++ tl))))))))) ds3 := by
      have e : bodyM (.reply x) ++ tl = n4 x.slot ++ (n4 x.query ++ (n4 x.shard ++ (n4 x.seq ++ (n4 x.worker ++ (n4 x.epoch ++ (n1 (x.items.length : Int) ++ (itsB x.items ++ (fB x.fin ++ tl)))))))) := by simp [bodyM, repB, nsB]
      rw [← e]; exact r1
    obtain ⟨e0, r2⟩ := rdd_n4 x.slot (by omega) (by omega) r1
    obtain ⟨e1, r3⟩ := rdd_n4 x.query (by omega) (by omega) r2
    obtain ⟨e2, r4⟩ := rdd_n4 x.shard (by omega) (by omega) r3
    obtain ⟨e3, r5⟩ := rdd_n4 x.seq (by omega) (by omega) r4
    obtain ⟨e4, r6⟩ := rdd_n4 x.worker (by omega) (by omega) r5
    obtain ⟨e5, r7⟩ := rdd_n4 x.epoch (by omega) (by omega) r6
    obtain ⟨e6, r8⟩ := rdd_n1 (x.items.length : Int) (by omega) (by omega) r7
    have RI := rdd_items x.items _ (fun k hk => by have := c7 k hk; omega) r8
    obtain ⟨ia, m, j, ic, hmx, hj, hjb, rfl, rfl⟩ := h
    have e6' : dMx bs bs.length ds3 = (x.items.length : Int) := e6
    rw [e6'] at hmx
    obtain rfl : m = x.items.length := by omega
    obtain rfl : j = x.items.length := by
      rcases hjb with h | h
      · exact h
      · have h2 : (dIs bs bs.length j (dNum bs.length 1 (dRx bs.length ds3))).bad = false := (RI j hj).2.good
        rw [h2] at h; cases h
    obtain ⟨e7, r9⟩ := RI x.items.length (Nat.le_refl _)
    rw [List.take_length] at e7
    rw [List.drop_length] at r9
    obtain ⟨e8, r10⟩ := rdd_flag x.fin (by simpa [itsB] using r9)
    refine ⟨r10.good, ?_⟩
    refine ⟨e0.symm, e1.symm, e2.symm, e3.symm, e4.symm, e5.symm, e7.symm, hx.symm, e8.symm⟩
  | stop a b =>
    rw [show mayM (.stop a b) = mayStop a b from rfl] at hm
    unfold mayStop at hm
    simp only [Bool.and_eq_true] at hm
    have h1 := inR_bd hm.1; have h2 := inR_bd hm.2
    rw [if_neg (by simp [kindM]), if_neg (by simp [kindM]), if_neg (by simp [kindM]), if_neg (by simp [kindM]), if_pos (by simp [kindM])] at h
    have r1 : Rdy bs (n4 a ++ (n4 b ++ tl)) ds3 := by rw [← ns2]; exact r1
    obtain ⟨e1, r2⟩ := rdd_n4 a (by omega) (by omega) r1
    obtain ⟨e2, r3⟩ := rdd_n4 b (by omega) (by omega) r2
    rw [e1, e2] at h
    obtain ⟨rfl, rfl⟩ := h
    exact ⟨r3.good, rfl, rfl⟩
  | num k => cases hm
  | none => cases hm
theorem dAskText (bs : List Nat) (n : Nat) (s : RS) (hl : bs.length ≤ 1100) : (dTx bs n s).size ≤ 1100 := by
  unfold dTx
  split
  · rw [strN_size]
    unfold textN
    rw [List.length_drop, List.length_take]
    omega
  · show 0 ≤ 1100; omega
theorem dIl_small (bs : List Nat) (n : Nat) (s : RS) (hl : bs.length ≤ 1100) : ∀ k, ∀ x ∈ dIl bs n k s, x.2.size ≤ 1100
  | 0, x, h => by cases h
  | k + 1, x, h => by
    rcases List.mem_append.1 h with h | h
    · exact dIl_small bs n s hl k x h
    · simp at h; subst h; exact dAskText bs n _ hl
end Go.Proofs.Ythboiklcjpnhbaa
