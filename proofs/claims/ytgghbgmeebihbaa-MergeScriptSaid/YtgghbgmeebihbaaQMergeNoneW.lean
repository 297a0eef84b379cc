/- merge: of no merge -/
import Derived.Test.YtgghbgmeebihbaaPkC
namespace Go.Proofs.Ytgghbgmeebihbaa
open Go.RowKit
set_option linter.unusedVariables false
set_option maxRecDepth 20000
def MActIn (w : World) (p o : Nat) (x : MAct) : Prop := w.cell? ⟨p, o, none⟩ = some (.bool x.tell) ∧ w.cell? ⟨p, o + 1, none⟩ = some (.bool x.en) ∧ w.cell? ⟨p, o + 2, none⟩ = some (.int .i64 x.shard) ∧ w.cell? ⟨p, o + 3, none⟩ = some (.int .i64 x.seq) ∧ w.cell? ⟨p, o + 4, none⟩ = some (.slice x.ia x.inn x.ic)
theorem MActIn.of {w w' : World} {p o : Nat} {x : MAct} (h : MActIn w p o x) (e : ∀ i, w'.cell? ⟨p, i, none⟩ = w.cell? ⟨p, i, none⟩) : MActIn w' p o x := by
  unfold MActIn at *
  rw [e, e, e, e, e]; exact h
theorem MActIn.below {w w' : World} {p o : Nat} {x : MAct} (h : MActIn w p o x) (hb : Below w.heap.size w w') : MActIn w' p o x := h.of fun i => hb.cell (p := ⟨p, i, none⟩) (lt_of_cell h.1)
theorem mactIn_new (w : World) (x : MAct) (p : Nat) (e : TypeId) (fr : Nat × Nat) (hp : p = w.heap.size) : MActIn (w.alloc (.cells #[.bool x.tell, .bool x.en, .int .i64 x.shard, .int .i64 x.seq, .slice x.ia x.inn x.ic] e fr)) p 0 x := by
  subst hp
  unfold MActIn
  refine ⟨?_, ?_, ?_, ?_, ?_⟩ <;> (rw [World.cell?_alloc_mark]; rfl)
theorem ksize_of {ks : List KV} (h : ∀ k ∈ ks, KeyOk k) : ∀ k ∈ ks, k.2.size ≤ 9223372036854775807 := fun k hk => (h k hk).2
set_option maxHeartbeats 3200000 in
set_option maxRecDepth 100000 in
theorem mergeNone_any (x : MAct) (w : World) (hx : MActOk w x) : Calls Try.prog 6 #[.agg #[.bool x.tell, .bool x.en, .int .i64 x.shard, .int .i64 x.seq, .slice x.ia x.inn x.ic]] w fun e w' => e = .returned (.bool true) ∧ Below w.heap.size w w' := by
  have A0 := Lib.hid (mactIn_new w x w.heap.size 36 (0, 0) rfl)
  have B0 := Lib.hid (below_one w (.cells #[.bool x.tell, .bool x.en, .int .i64 x.shard, .int .i64 x.seq, .slice x.ia x.inn x.ic] 36))
  have CG := Lib.hid (greatK_any x.ia x.inn x.ic x.ks _ (hx.1.below B0.out) hx.2.2.1 (ksize_of hx.2.2.2))
  obtain ⟨g, hg⟩ : ∃ g, greatKB x.ks = g := ⟨_, rfl⟩
  rw [hg] at CG
  clear hx hg
  go_enter Try.func6, Try.ntmps6
  go_wp2_with fail
  refine CG.out.mono ?_
  rintro e w' ⟨rfl, rfl⟩
  clear CG
  cases g
  case true =>
    go_wp2_with fail
    refine (awakeM_any _).mono ?_
    rintro e w' ⟨rfl, hb⟩
    have B1 := Lib.hid (B0.out.trans (hb.mono B0.out.size))
    clear hb
    go_wp2_with fail
    go_ret
    exact ⟨rfl, B1.out⟩
  · go_upto_region 4 with fail
    generalize w.alloc (.cells #[.bool x.tell, .bool x.en, .int .i64 x.shard, .int .i64 x.seq, .slice x.ia x.inn x.ic] 36) = w1 at *
    obtain ⟨x0, x1, x2, x3, x4⟩ := A0.out
    simp only [Nat.zero_add] at x1 x2 x3 x4
    have A1 := Lib.hid (show MActIn w1 w.heap.size 0 x from A0.out)
    clear A0
    go_wp2_with fail
    refine (mafter_none _ _).mono ?_
    rintro e w2 ⟨rfl, hb⟩
    have A2 := Lib.hid (A1.out.below hb)
    have B2 := Lib.hid (B0.out.trans (hb.mono B0.out.size))
    clear hb x0 x1 x2 x3 x4 A1
    go_upto_region 5 with fail
    have A3 := Lib.hid (A2.out.below (below_one w2 (.cells #[.int .i64 0, .string ⟨#[]⟩] 61)))
    have B3 := Lib.hid (B2.out.trans ((below_one w2 (.cells #[.int .i64 0, .string ⟨#[]⟩] 61)).mono B2.out.size))
    have z0 : (w2.alloc (.cells #[.int .i64 0, .string ⟨#[]⟩] 61)).cell? ⟨w2.heap.size, 0, none⟩ = some (.int .i64 0) := by rw [World.cell?_alloc_mark]; rfl
    have z1 : (w2.alloc (.cells #[.int .i64 0, .string ⟨#[]⟩] 61)).cell? ⟨w2.heap.size, 1, none⟩ = some (.string ⟨#[]⟩) := by rw [World.cell?_alloc_mark]; rfl
    clear A2 B2
    generalize w2.alloc (.cells #[.int .i64 0, .string ⟨#[]⟩] 61) = w3 at *
    generalize w2.heap.size = q at *
    obtain ⟨x0, x1, x2, x3, x4⟩ := A3.out
    simp only [Nat.zero_add] at x1 x2 x3 x4
    go_wp2_with fail
    refine (mput_none _ _ _ _ _).mono ?_
    rintro e w' ⟨rfl, rfl⟩
    go_wp2_with fail
    refine (mtell_none _).mono ?_
    rintro e w' ⟨rfl, rfl⟩
    go_wp2_with fail
    refine (mwants_none _).mono ?_
    rintro e w' ⟨rfl, rfl⟩
    go_wp2_with fail
    refine (mseq_none _ _).mono ?_
    rintro e w' ⟨rfl, rfl⟩
    go_wp2_with fail
    refine (mdone_none _).mono ?_
    rintro e w' ⟨rfl, rfl⟩
    go_wp2_with fail
    refine (mtold_none _).mono ?_
    rintro e w' ⟨rfl, rfl⟩
    go_wp2_with fail
    refine (awakeM_any _).mono ?_
    rintro e w7 ⟨rfl, hb⟩
    have B7 := Lib.hid (B3.out.trans (hb.mono B3.out.size))
    clear hb
    go_wp2_with fail
    go_ret
    exact ⟨rfl, B7.out⟩
open Go.ChangeShapes Go.WideShapes Go.ChangeAt in
theorem mergeNone_walk {H : Type} {enc : TypeId × Value → H} (W : World) (base : Nat) (v0 : Value) (d0 : DataW H) (p0 : List MemPlace)
    (h0 : DataW.Trod enc Try.prog W 0 (fun _ => true) true 36 v0 d0 p0) (o0 : Value.okWide Try.prog W .any base 36 v0) :
    Calls Try.prog 6 #[v0] W fun e w' => e = .returned (.bool true) ∧ RowKit.Below W.heap.size W w' := by
  obtain ⟨x, hx, rfl⟩ := open_mact o0 h0
  exact mergeNone_any x W hx
end Go.Proofs.Ytgghbgmeebihbaa
