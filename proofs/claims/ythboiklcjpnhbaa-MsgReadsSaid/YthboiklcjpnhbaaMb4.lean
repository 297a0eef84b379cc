/- msg: Decode -/
import Derived.Test.YthboiklcjpnhbaaMb3
import Derived.Test.YthboiklcjpnhbaaPk9
namespace Go.Proofs.Ythboiklcjpnhbaa
open Go.RowKit
set_option linter.unusedVariables false
set_option maxRecDepth 20000
def shapeB (bs : List Nat) (n : Nat) : Bool := decide (7 ≤ n) && decide (n ≤ 1024) && decide (numN bs 0 2 = n)
def inner (bs : List Nat) (n : Nat) : List Nat := (bs.take (n - 4)).drop 2
theorem numN_lt2 (bs : List Nat) (hb : ∀ b ∈ bs, b < 256) (hk : 2 ≤ bs.length) : numN bs 0 2 < 65536 := numN_lt bs 0 2 hb (by omega)
/-- what Decode makes of bytes -/
def DecM (w : World) (bs : List Nat) (n : Nat) (e : Ending) (w' : World) : Prop :=
  Below w.heap.size w w' ∧
  ((shapeB bs n = false ∧ e = .returned (.tuple #[.nilIface, .int .i64 8])) ∨
   (shapeB bs n = true ∧ openB bs = false ∧ e = .returned (.tuple #[.nilIface, .int .i64 9])) ∨
   (shapeB bs n = true ∧ openB bs = true ∧ ∃ M, GotM (inner bs n) (n - 6) M ∧ heldM w' M ∧ smallM M ∧
     ((mayM M = true ∧ frameM M = bs ∧ e = .returned (.tuple #[valM M, .int .i64 0])) ∨ (¬ (mayM M = true ∧ frameM M = bs) ∧ e = .returned (.tuple #[.nilIface, .int .i64 8])))))
theorem strN_size (l : List Nat) : (strN l).size = l.length := by
  show (strN l).data.size = _
  rw [← Array.length_toList]
  unfold strN
  rw [strOfNums_data]
  simp
theorem gText_size (bs : List Nat) (n : Nat) (s : RS) (hl : bs.length ≤ 1100) : (gText bs n s).size ≤ 1100 := by
  unfold gText
  split
  · rw [strN_size]
    unfold textN
    rw [List.length_drop, List.length_take]
    omega
  · show 0 ≤ 1100; omega
theorem gItems_small (bs : List Nat) (n : Nat) (s : RS) (hl : bs.length ≤ 1100) : ∀ k, ∀ x ∈ gItems bs n k s, x.2.size ≤ 1100
  | 0, x, h => by cases h
  | k + 1, x, h => by
    rcases List.mem_append.1 h with h | h
    · exact gItems_small bs n s hl k x h
    · simp at h; subst h; exact gText_size bs n _ hl
theorem GotM.small {bs : List Nat} {n : Nat} {M : MsgV} (h : GotM bs n M) (hl : bs.length ≤ 1100) (hlt : ∀ b ∈ bs, b < 256) (hn : bs.length = n) : smallM M := by
  unfold GotM at h
  split at h
  · subst h; trivial
  split at h
  · subst h; trivial
  split at h
  · subst h
    exact ⟨gText_size bs n _ hl, gText_size bs n _ hl⟩
  split at h
  · obtain ⟨ia, m, ic, hm, rfl⟩ := h
    refine ⟨gItems_small bs n _ hl m, ?_⟩
    show m ≤ 1048576
    have h1 := numR_lt bs n ((rNum n 4 (rNum n 4 (rNum n 4 (rNum n 4 (rNum n 4 (rNum n 4 (rs1 n)))))))).k 1 ((rNum n 4 (rNum n 4 (rNum n 4 (rNum n 4 (rNum n 4 (rNum n 4 (rs1 n)))))))).bad hlt hn
    unfold mRep gNum at hm
    have : (256 : Nat) ^ 1 = 256 := by decide
    omega
  split at h
  · subst h; trivial
  · subst h; trivial
set_option maxHeartbeats 6400000 in
theorem decode_any (a : Option Addr) (n cap : Nat) (bs : List Nat) (w : World) (h : HoldsB w a n bs) (hn : n ≤ 1048576) (hc : n ≤ cap) :
    Calls Try.prog 25 #[.slice a n cap] w (DecM w bs n) := by
  have hl := h.len
  by_cases h2 : 2 ≤ n
  · have CN := Lib.hid (num_yes a n cap bs 0 2 w h (by omega) (by omega) (by omega) (by omega))
    have hx := numN_lt2 bs h.2 (by omega)
    obtain ⟨x, hxx⟩ : ∃ x, numN bs 0 2 = x := ⟨_, rfl⟩
    rw [hxx, wrap_small x (by omega), show ((2 : Nat) : Int) = 2 from rfl, show ((0 : Nat) : Int) = 0 from rfl] at CN
    rw [hxx] at hx
    have SH := Lib.hid (show shapeB bs n = (decide (7 ≤ n) && decide (n ≤ 1024) && decide (x = n)) from by unfold shapeB; rw [hxx])
    by_cases hs : 7 ≤ n ∧ n ≤ 1024 ∧ x = n
    · obtain ⟨h7, h1024, rfl⟩ := hs
      have ST := Lib.hid (show shapeB bs x = true from by rw [SH.out]; simp [h7, h1024])
      have d1 : decide ((x : Int) < 7) = false := decide_eq_false (by omega)
      have d2 : decide ((x : Int) > 1024) = false := decide_eq_false (by omega)
      have d1' : decide (x < 7) = false := decide_eq_false (by omega)
      have d2' : decide (1024 < x) = false := decide_eq_false (by omega)
      have d3 : ((x : Int) != (x : Int)) = false := by simp
      have CS := Lib.hid (wSealed_any a x cap bs w h hn hc)
      cases ho : openB bs
      · simp only [ho, Bool.false_eq_true, if_false] at CS
        have FF := Lib.hid (show DecM w bs x (.returned (.tuple #[.nilIface, .int .i64 9])) w from ⟨Below.refl _ _, Or.inr (Or.inl ⟨ST.out, ho, rfl⟩)⟩)
        clear h ho hl hxx hx
        go_enter Try.func25, Try.ntmps25
        go_wp2_with fail
        refine CN.out.mono ?_
        rintro e w' ⟨rfl, rfl⟩
        go_wp2_with fail
        refine CS.out.mono ?_
        rintro e w' ⟨rfl, rfl⟩
        go_wp2_with fail
        go_ret2
        exact FF.out
      · simp only [ho, if_true] at CS
        have HO := Lib.hid ho
        obtain ⟨b, o, rfl, hcc⟩ := h.at (by omega)
        obtain ⟨k, hk⟩ : ∃ k, x - 4 = k := ⟨_, rfl⟩
        obtain ⟨k2, hk2⟩ : ∃ k, x - 6 = k := ⟨_, rfl⟩
        have IH : HoldsB w (some ⟨b, o + 2, none⟩) k2 (inner bs x) := by
          unfold inner
          rw [hk]
          have := h.part 2 k (by omega) (by omega) k2 (by omega)
          exact this
        have LT := Lib.hid h.2
        have IL := Lib.hid IH.len
        have ILT := Lib.hid IH.2
        have CR := Lib.hid (mread_any (some ⟨b, o + 2, none⟩) k2 (cap - 2) (inner bs x) w IH (by omega) (by omega) (by omega))
        have HB := Lib.hid h
        rw [hk] at CS
        have HK2 := Lib.hid hk2
        have c2 : k - 2 = k2 := by omega
        have n1 : (2 : Int) ≤ (k : Int) := by omega
        have n2 : 2 ≤ k := by omega
        have n3 : (k : Int) ≤ (cap : Int) := by omega
        have n4 : k ≤ cap := by omega
        have n5 : 2 < cap := by omega
        have n6 : ¬ cap = 2 := by omega
        have K2 := Lib.hid (show k2 ≤ 1018 from by omega)
        clear h ho hl hxx hx hcc IH hk hk2
        go_enter Try.func25, Try.ntmps25
        go_wp2_with fail
        refine CN.out.mono ?_
        rintro e w' ⟨rfl, rfl⟩
        go_wp2_with fail
        refine CS.out.mono ?_
        rintro e w' ⟨rfl, rfl⟩
        go_wp2_with fail
        with_reducible refine CR.out.mono ?_
        rintro e w1 ⟨M, rfl, hH, hG, hb⟩
        have SM := Lib.hid (hG.small (by rw [IL.out]; have := K2.out; omega) ILT.out IL.out)
        have GM := Lib.hid hG; have HM := Lib.hid hH; have B1 := Lib.hid hb
        have CV := Lib.hid (valid_all M w1 hH SM.out)
        obtain ⟨V, hV⟩ : ∃ V, valM M = V := ⟨_, rfl⟩
        have HV := Lib.hid hV
        rw [hV] at CV
        clear hG hH hb CR CN CS
        cases hm : mayM M
        · rw [hm] at CV
          rw [hV]
          have MN := Lib.hid hm
          clear hm hV
          go_wp2_with fail
          refine CV.out.mono ?_
          rintro e w2 ⟨rfl, hb⟩
          have B2 := Lib.hid (B1.out.trans (hb.mono B1.out.size))
          have FF := Lib.hid (show DecM w bs x (.returned (.tuple #[.nilIface, .int .i64 8])) w2 from ⟨B2.out, Or.inr (Or.inr ⟨ST.out, HO.out, M, by rw [HK2.out]; exact GM.out, HM.out.below hb, SM.out, Or.inr ⟨(fun h => by rw [MN.out] at h; cases h.1), rfl⟩⟩)⟩)
          clear hb CV
          go_wp2_with fail
          go_ret2
          exact FF.out
        · rw [hm] at CV
          have CF := Lib.hid (fun w' (hb : Below w1.heap.size w1 w') => frame_all M w' (HM.out.below hb) SM.out hm)
          rw [hV] at CF ⊢
          have MY := Lib.hid hm
          obtain ⟨F, hF⟩ : ∃ F, frameM M = F := ⟨_, rfl⟩
          have HF := Lib.hid hF
          rw [hF] at CF
          have FL := Lib.hid (show ∀ b ∈ F, b < 256 from hF ▸ frameM_lt M)
          clear hm hV hF
          go_wp2_with fail
          refine CV.out.mono ?_
          rintro e w2 ⟨rfl, hb⟩
          have B2 := Lib.hid (B1.out.trans (hb.mono B1.out.size))
          have H2 := Lib.hid (HM.out.below hb)
          have CF2 := Lib.hid (CF.out w2 hb)
          clear hb CV CF
          go_wp2_with fail
          refine CF2.out.mono ?_
          rintro e w3 ⟨a3, c3, rfl, r1, r2, r3⟩
          have B3 := Lib.hid (B2.out.trans (r2.mono B2.out.size))
          have H3 := Lib.hid (H2.out.below r2)
          have CE := Lib.hid (bEqual_any a3 (some ⟨b, o, none⟩) F.length c3 x cap F bs w3 (holdsB_of_values (owns_holds r1) FL.out) (HB.out.below B3.out))
          clear r1 r2 r3 CF2
          by_cases he : F = bs
          · rw [decide_eq_true he] at CE
            have FF := Lib.hid (show DecM w bs x (.returned (.tuple #[V, .int .i64 0])) w3 from ⟨B3.out, Or.inr (Or.inr ⟨ST.out, HO.out, M, by rw [HK2.out]; exact GM.out, H3.out, SM.out, Or.inl ⟨MY.out, HF.out.trans he, by rw [HV.out]⟩⟩)⟩)
            clear he
            go_wp2_with fail
            refine CE.out.mono ?_
            rintro e w' ⟨rfl, rfl⟩
            go_wp2_with fail
            go_ret2
            exact FF.out
          · rw [decide_eq_false he] at CE
            have FF := Lib.hid (show DecM w bs x (.returned (.tuple #[.nilIface, .int .i64 8])) w3 from ⟨B3.out, Or.inr (Or.inr ⟨ST.out, HO.out, M, by rw [HK2.out]; exact GM.out, H3.out, SM.out, Or.inr ⟨fun h => he (HF.out.symm.trans h.2), rfl⟩⟩)⟩)
            clear he
            go_wp2_with fail
            refine CE.out.mono ?_
            rintro e w' ⟨rfl, rfl⟩
            go_wp2_with fail
            go_ret2
            exact FF.out
    · have SF := Lib.hid (show shapeB bs n = false from by
        rw [SH.out]
        by_cases h7 : 7 ≤ n
        · by_cases h1 : n ≤ 1024
          · have : ¬ x = n := fun h => hs ⟨h7, h1, h⟩
            simp [this]
          · simp [h1]
        · simp [h7])
      have FF := Lib.hid (show DecM w bs n (.returned (.tuple #[.nilIface, .int .i64 8])) w from ⟨Below.refl _ _, Or.inl ⟨SF.out, rfl⟩⟩)
      by_cases h7 : 7 ≤ n
      · have d1 : decide ((n : Int) < 7) = false := decide_eq_false (by omega)
        have d1' : decide (n < 7) = false := decide_eq_false (by omega)
        by_cases h1 : n ≤ 1024
        · have d2 : decide ((n : Int) > 1024) = false := decide_eq_false (by omega)
          have d2' : decide (1024 < n) = false := decide_eq_false (by omega)
          have hne : ¬ x = n := fun h => hs ⟨h7, h1, h⟩
          have d3 : ((x : Int) != (n : Int)) = true := by rw [bne_iff_ne]; omega
          have d4 : ((x : Int) == (n : Int)) = false := by rw [beq_eq_false_iff_ne]; omega
          clear h hl hxx hx hs hne h2 h7 h1
          go_enter Try.func25, Try.ntmps25
          go_wp2_with fail
          refine CN.out.mono ?_
          rintro e w' ⟨rfl, rfl⟩
          go_wp2_with fail
          go_ret2
          exact FF.out
        · have d2 : decide ((n : Int) > 1024) = true := decide_eq_true (by omega)
          have d2' : decide (1024 < n) = true := decide_eq_true (by omega)
          clear h hl hxx hx hs h2 h7 h1
          go_enter Try.func25, Try.ntmps25
          go_wp2_with fail
          refine CN.out.mono ?_
          rintro e w' ⟨rfl, rfl⟩
          go_wp2_with fail
          go_ret2
          exact FF.out
      · have d1 : decide ((n : Int) < 7) = true := decide_eq_true (by omega)
        have d1' : decide (n < 7) = true := decide_eq_true (by omega)
        clear h hl hxx hx hs h2 h7
        go_enter Try.func25, Try.ntmps25
        go_wp2_with fail
        refine CN.out.mono ?_
        rintro e w' ⟨rfl, rfl⟩
        go_wp2_with fail
        go_ret2
        exact FF.out
  · have CN := Lib.hid (num_no a n cap 0 2 w (by omega) (by omega) (by omega))
    have SF := Lib.hid (show shapeB bs n = false from by unfold shapeB; rw [decide_eq_false (by omega)]; rfl)
    have FF := Lib.hid (show DecM w bs n (.returned (.tuple #[.nilIface, .int .i64 8])) w from ⟨Below.refl _ _, Or.inl ⟨SF.out, rfl⟩⟩)
    clear h hl h2
    go_enter Try.func25, Try.ntmps25
    go_wp2_with fail
    refine CN.out.mono ?_
    rintro e w' ⟨rfl, rfl⟩
    go_wp2_with fail
    go_ret2
    exact FF.out
end Go.Proofs.Ythboiklcjpnhbaa
