/- msg: a message's frame is read as that message -/
import Derived.Test.YthboiklcjpnhbaaMb5
namespace Go.Proofs.Ythboiklcjpnhbaa
open Go.RowKit
set_option linter.unusedVariables false
set_option maxRecDepth 20000
theorem frameB_eq (kd : Nat) (o : List Nat) : frameB kd o = (Cod.bytesOf (7 + o.length) 2 ++ (Cod.bytesOf kd 1 ++ o)) ++ Cod.bytesOf (Crc.sum ((Cod.bytesOf (7 + o.length) 2 ++ Cod.bytesOf kd 1) ++ o)) 4 := by
  unfold frameB sealB; simp only [List.append_assoc]
theorem inner_frame (kd : Nat) (o : List Nat) (L : Nat) (hL : L = o.length + 7) : inner (frameB kd o) L = Cod.bytesOf kd 1 ++ o := by
  unfold inner
  rw [frameB_eq, List.take_left' (by simp only [List.length_append, Cod.bytesOf_length]; omega), List.drop_left' (Cod.bytesOf_length _ _)]
theorem open_sealB (bs : List Nat) : openB (sealB bs) = true := by
  have hl : 4 ≤ (sealB bs).length := by rw [sealB_len]; omega
  unfold openB
  rw [decide_eq_true hl, Bool.true_and]
  refine decide_eq_true ?_
  rw [sealB_len, Nat.add_sub_cancel]
  unfold numN sealB
  rw [List.drop_left' rfl, List.take_left' rfl, List.take_of_length_le (by rw [Cod.bytesOf_length]; omega), Cod.numOf_bytesOf]
  exact Nat.mod_eq_of_lt (sum_lt9 _)
theorem shape_frameB (kd : Nat) (o : List Nat) (h : o.length ≤ 1017) : shapeB (frameB kd o) (frameB kd o).length = true := by
  unfold shapeB
  have h1 : numN (frameB kd o) 0 2 = 7 + o.length := by
    unfold numN
    rw [List.drop_zero, frameB_eq, List.append_assoc, List.take_left' (Cod.bytesOf_length _ _), Cod.numOf_bytesOf]
    have p2 : (256 : Nat) ^ 2 = 65536 := by decide
    exact Nat.mod_eq_of_lt (by omega)
  rw [h1, frameB_len]
  simp
  omega
theorem body_small (M : MsgV) (hm : mayM M = true) (hh : ∀ x, M = .reply x → x.items.length = x.n) : (bodyM M).length ≤ 1017 := by
  cases M with
  | hello a b => rw [show bodyM (.hello a b) = nsB [a, b] from rfl, nsB_len]; simp
  | grant a b c => rw [show bodyM (.grant a b c) = nsB [a, b, c] from rfl, nsB_len]; simp
  | ask x =>
    rw [show mayM (.ask x) = mayAsk x from rfl] at hm
    unfold mayAsk at hm
    simp only [Bool.and_eq_true, decide_eq_true_eq] at hm
    obtain ⟨⟨⟨⟨-, ht⟩, -⟩, -⟩, ha⟩ := hm
    have h1 := size_4 x.text ht.1
    have h2 := (mayAfter_bd ha).2.2
    simp only at h2
    have h3 := tB_len x.text (by omega)
    have h4 := itB_len (x.ad, x.aw) (by simp only; omega)
    rw [show bodyM (.ask x) = askB x from rfl]
    unfold askB
    simp only [List.length_append, nsB_len, n1_len, fB_len, h3, h4, List.length_cons, List.length_nil]
    omega
  | reply x =>
    rw [show mayM (.reply x) = mayReply x from rfl] at hm
    unfold mayReply at hm
    simp only [Bool.and_eq_true] at hm
    obtain ⟨h5, hk⟩ := mayItems_bd hm.2
    have h1 : ∀ ks : List KV, (∀ k ∈ ks, k.2.size ≤ 48) → (itsB ks).length ≤ 51 * ks.length := by
      intro ks hks
      unfold itsB
      induction ks with
      | nil => simp
      | cons k ks ih =>
        rw [List.flatMap_cons, List.length_append, itB_len k (by have := hks k (by simp); omega), List.length_cons]
        have := ih (fun x hx => hks x (by simp [hx]))
        have := hks k (by simp)
        omega
    have h2 := h1 x.items (fun k hk2 => (hk k hk2).2.2)
    rw [show bodyM (.reply x) = repB x from rfl]
    unfold repB
    simp only [List.length_append, nsB_len, n1_len, fB_len, List.length_cons, List.length_nil]
    omega
  | stop a b => rw [show bodyM (.stop a b) = nsB [a, b] from rfl, nsB_len]; simp
  | num k => cases hm
  | none => cases hm
theorem ns2 (a b : Int) (rest : List Nat) : nsB [a, b] ++ rest = n4 a ++ (n4 b ++ rest) := by simp [nsB]
theorem got_same (M M' : MsgV) (I : List Nat) (hI : I = Cod.bytesOf (kindM M) 1 ++ bodyM M) (hm : mayM M = true) (hh : ∀ x, M = .reply x → x.items.length = x.n) (h : GotM I I.length M') : SameM M M' := by
  have p1 : (256 : Nat) ^ 1 = 256 := by decide
  have r0 : Rdy I (Cod.bytesOf (kindM M) 1 ++ bodyM M) rs0 := ⟨[], by simpa using hI, rfl⟩
  obtain ⟨ek, r1⟩ := rdy_num (kindM M) 1 (by cases M <;> simp [kindM]) r0
  have ek : kdR I I.length = (kindM M : Int) := ek
  have r1 : Rdy I (bodyM M) (rs1 I.length) := r1
  clear r0
  unfold GotM at h
  rw [ek] at h
  cases M with
  | hello a b =>
    rw [show mayM (.hello a b) = mayHello a b from rfl] at hm
    unfold mayHello at hm
    simp only [Bool.and_eq_true] at hm
    have h1 := inR_bd hm.1; have h2 := inR_bd hm.2
    rw [if_pos (by simp [kindM])] at h
    have r1 : Rdy I (n4 a ++ (n4 b ++ [])) (rs1 I.length) := by rw [← ns2, List.append_nil]; exact r1
    obtain ⟨e1, r2⟩ := rdy_n4 a (by omega) (by omega) r1
    obtain ⟨e2, -⟩ := rdy_n4 b (by omega) (by omega) r2
    rw [e1, e2] at h
    subst h
    exact ⟨rfl, rfl⟩
  | grant a b c =>
    rw [show mayM (.grant a b c) = mayGrant a b c from rfl] at hm
    unfold mayGrant at hm
    simp only [Bool.and_eq_true] at hm
    have h1 := inR_bd hm.1.1; have h2 := inR_bd hm.1.2; have h3 := inR_bd hm.2
    rw [if_neg (by simp [kindM]), if_pos (by simp [kindM])] at h
    have r1 : Rdy I (n4 a ++ (n4 b ++ (n4 c ++ []))) (rs1 I.length) := by
      have e : bodyM (.grant a b c) = n4 a ++ (n4 b ++ (n4 c ++ [])) := by simp [bodyM, nsB]
      rw [← e]; exact r1
    obtain ⟨e1, r2⟩ := rdy_n4 a (by omega) (by omega) r1
    obtain ⟨e2, r3⟩ := rdy_n4 b (by omega) (by omega) r2
    obtain ⟨e3, -⟩ := rdy_n4 c (by omega) (by omega) r3
    rw [e1, e2, e3] at h
    subst h
    exact ⟨rfl, rfl, rfl⟩
  | ask x =>
    rw [show mayM (.ask x) = mayAsk x from rfl] at hm
    unfold mayAsk at hm
    simp only [Bool.and_eq_true, decide_eq_true_eq] at hm
    obtain ⟨⟨⟨⟨⟨⟨⟨⟨b0, b1⟩, b2⟩, b3⟩, b4⟩, b5⟩, b6⟩, b7⟩, b8⟩ := hm
    have c0 := inR_bd b0; have c1 := inR_bd b1; have c2 := inR_bd b2; have c3 := inR_bd b3; have c4 := inR_bd b4; have c6 := inR_bd b6; have c7 := inR_bd b7
    have c5 := size_4 x.text b5.1
    have c8 := mayAfter_bd b8
    simp only at c8
    rw [if_neg (by simp [kindM]), if_neg (by simp [kindM]), if_pos (by simp [kindM])] at h
    have r1 : Rdy I (n4 x.slot ++ (n4 x.query ++ (n4 x.shard ++ (n4 x.seq ++ (n4 x.epoch ++ (tB x.text ++ (n1 x.k ++ (n1 x.batch ++ (fB x.first ++ (itB (x.ad, x.aw) ++ [])))))))))) (rs1 I.length) := by
      have e : bodyM (.ask x) = n4 x.slot ++ (n4 x.query ++ (n4 x.shard ++ (n4 x.seq ++ (n4 x.epoch ++ (tB x.text ++ (n1 x.k ++ (n1 x.batch ++ (fB x.first ++ (itB (x.ad, x.aw) ++ []))))))))) := by simp [bodyM, askB, nsB]
      rw [← e]; exact r1
    obtain ⟨e0, r2⟩ := rdy_n4 x.slot (by omega) (by omega) r1
    obtain ⟨e1, r3⟩ := rdy_n4 x.query (by omega) (by omega) r2
    obtain ⟨e2, r4⟩ := rdy_n4 x.shard (by omega) (by omega) r3
    obtain ⟨e3, r5⟩ := rdy_n4 x.seq (by omega) (by omega) r4
    obtain ⟨e4, r6⟩ := rdy_n4 x.epoch (by omega) (by omega) r5
    obtain ⟨e5, r7⟩ := rdy_text x.text (by omega) r6
    obtain ⟨e6, r8⟩ := rdy_n1 x.k (by omega) (by omega) r7
    obtain ⟨e7, r9⟩ := rdy_n1 x.batch (by omega) (by omega) r8
    obtain ⟨e8, r10⟩ := rdy_flag x.first r9
    obtain ⟨e9, -⟩ := rdy_item (x.ad, x.aw) (by simp only; omega) (by simp only; omega) (by simp only; omega) r10
    subst h
    show x = gAsk I I.length (rs1 I.length)
    unfold gAsk
    rw [e0, e1, e2, e3, e4, e5, e6, e7, e8, e9]
  | reply x =>
    have hx := hh x rfl
    rw [show mayM (.reply x) = mayReply x from rfl] at hm
    unfold mayReply at hm
    simp only [Bool.and_eq_true] at hm
    obtain ⟨⟨⟨⟨⟨⟨b0, b1⟩, b2⟩, b3⟩, b4⟩, b5⟩, b6⟩ := hm
    have c0 := inR_bd b0; have c1 := inR_bd b1; have c2 := inR_bd b2; have c3 := inR_bd b3; have c4 := inR_bd b4; have c5 := inR_bd b5
    obtain ⟨c6, c7⟩ := mayItems_bd b6
    rw [if_neg (by simp [kindM]), if_neg (by simp [kindM]), if_neg (by simp [kindM]), if_pos (by simp [kindM])] at h
    have r1 : Rdy I (n4 x.slot ++ (n4 x.query ++ (n4 x.shard ++ (n4 x.seq ++ (n4 x.worker ++ (n4 x.epoch ++ (n1 (x.items.length : Int) ++ (itsB x.items ++ (fB x.fin ++ []))))))))) (rs1 I.length) := by
      have e : bodyM (.reply x) = n4 x.slot ++ (n4 x.query ++ (n4 x.shard ++ (n4 x.seq ++ (n4 x.worker ++ (n4 x.epoch ++ (n1 (x.items.length : Int) ++ (itsB x.items ++ (fB x.fin ++ [])))))))) := by simp [bodyM, repB, nsB]
      rw [← e]; exact r1
    obtain ⟨e0, r2⟩ := rdy_n4 x.slot (by omega) (by omega) r1
    obtain ⟨e1, r3⟩ := rdy_n4 x.query (by omega) (by omega) r2
    obtain ⟨e2, r4⟩ := rdy_n4 x.shard (by omega) (by omega) r3
    obtain ⟨e3, r5⟩ := rdy_n4 x.seq (by omega) (by omega) r4
    obtain ⟨e4, r6⟩ := rdy_n4 x.worker (by omega) (by omega) r5
    obtain ⟨e5, r7⟩ := rdy_n4 x.epoch (by omega) (by omega) r6
    obtain ⟨e6, r8⟩ := rdy_n1 (x.items.length : Int) (by omega) (by omega) r7
    obtain ⟨e7, r9⟩ := rdy_items x.items _ (fun k hk => by have := c7 k hk; omega) r8
    obtain ⟨e8, -⟩ := rdy_flag x.fin r9
    obtain ⟨ia, m, ic, hmr, rfl⟩ := h
    unfold mRep at hmr
    rw [e6] at hmr
    obtain rfl : m = x.items.length := by omega
    exact ⟨e0.symm, e1.symm, e2.symm, e3.symm, e4.symm, e5.symm, e7.symm, hx.symm, e8.symm⟩
  | stop a b =>
    rw [show mayM (.stop a b) = mayStop a b from rfl] at hm
    unfold mayStop at hm
    simp only [Bool.and_eq_true] at hm
    have h1 := inR_bd hm.1; have h2 := inR_bd hm.2
    rw [if_neg (by simp [kindM]), if_neg (by simp [kindM]), if_neg (by simp [kindM]), if_neg (by simp [kindM]), if_pos (by simp [kindM])] at h
    have r1 : Rdy I (n4 a ++ (n4 b ++ [])) (rs1 I.length) := by rw [← ns2, List.append_nil]; exact r1
    obtain ⟨e1, r2⟩ := rdy_n4 a (by omega) (by omega) r1
    obtain ⟨e2, -⟩ := rdy_n4 b (by omega) (by omega) r2
    rw [e1, e2] at h
    subst h
    exact ⟨rfl, rfl⟩
  | num k => cases hm
  | none => cases hm
theorem SameM.may {M M' : MsgV} (h : SameM M M') : mayM M' = mayM M := by
  cases M <;> cases M' <;> first | exact h.elim | skip
  · obtain ⟨rfl, rfl⟩ := h; rfl
  · obtain ⟨rfl, rfl, rfl⟩ := h; rfl
  · have h : _ = _ := h; subst h; rfl
  · obtain ⟨h1, h2, h3, h4, h5, h6, h7, h8, h9⟩ := h
    show mayReply _ = mayReply _
    unfold mayReply
    rw [h1, h2, h3, h4, h5, h6, h7]
  · obtain ⟨rfl, rfl⟩ := h; rfl
theorem SameM.frame {M M' : MsgV} (h : SameM M M') : frameM M' = frameM M := by
  cases M <;> cases M' <;> first | exact h.elim | skip
  · obtain ⟨rfl, rfl⟩ := h; rfl
  · obtain ⟨rfl, rfl, rfl⟩ := h; rfl
  · have h : _ = _ := h; subst h; rfl
  · obtain ⟨h1, h2, h3, h4, h5, h6, h7, h8, h9⟩ := h
    show frameB 4 (repB _) = frameB 4 (repB _)
    unfold repB
    rw [h1, h2, h3, h4, h5, h6, h7, h9]
  · obtain ⟨rfl, rfl⟩ := h; rfl
def DecOk (w : World) (M : MsgV) (e : Ending) (w' : World) : Prop := ∃ M', e = .returned (.tuple #[valM M', .int .i64 0]) ∧ SameM M M' ∧ heldM w' M' ∧ smallM M' ∧ Below w.heap.size w w'
theorem heldM.items {w : World} {M : MsgV} (h : heldM w M) : ∀ x, M = .reply x → x.items.length = x.n := by
  rintro x rfl
  exact h.1.len
theorem decode_back (M : MsgV) (a : Option Addr) (n cap : Nat) (w : World) (h : HoldsB w a n (frameM M)) (hc : n ≤ cap) (hm : mayM M = true) (hh : ∀ x, M = .reply x → x.items.length = x.n) :
    Calls Try.prog 25 #[.slice a n cap] w (DecOk w M) := by
  have hl := h.len
  have hb := body_small M hm hh
  have hfl := frameM_len M
  refine (decode_any a n cap (frameM M) w h (by omega) hc).mono ?_
  rintro e w' ⟨hB, ⟨hs, -⟩ | ⟨hs, ho, -⟩ | ⟨hs, ho, M', hg, hH, hS, hr⟩⟩
  · rw [← hl] at hs
    have := shape_frameB (kindM M) (bodyM M) hb
    unfold frameM at hs
    rw [this] at hs; cases hs
  · have : openB (frameM M) = true := open_sealB _
    rw [this] at ho; cases ho
  · have e1 : inner (frameM M) n = Cod.bytesOf (kindM M) 1 ++ bodyM M := inner_frame _ _ n (by rw [← hl, hfl])
    have e2 : n - 6 = (inner (frameM M) n).length := by rw [e1]; simp [Cod.bytesOf_length]; omega
    rw [e2] at hg
    have hs2 := got_same M M' _ e1 hm hh hg
    rcases hr with ⟨-, -, he⟩ | ⟨hno, -⟩
    · exact ⟨M', he, hs2, hH, hS, hB⟩
    · exact absurd ⟨hs2.may.trans hm, hs2.frame⟩ hno
end Go.Proofs.Ythboiklcjpnhbaa
