/- texts joined -/
import Derived.Test.YtmmliepkcgdnlaaPkC
import Derived.Test.YtmmliepkcgdnlaaPkA
import Derived.WalkLawsBesides
import Derived.Outline
import Derived.Deep.QuietTactic
import Derived.BigQuiet
import Derived.Deep.DeepCutAuto
import Derived.Deep.RegionWith
import Derived.Shelf.SlSortCmp.NoneTotal
import Derived.Shelf.Slices.CompactS
import Derived.Ground.SlsfProg
import Derived.Ground.NamesProg
import Derived.Test.YtmmliepkcgdnlaaChecked
import Derived.Lib.OwnBridge
import Derived.Sort.OwnSorted
/- graph: a beginning more is a thread of nodes more, plain -/
namespace Go.Proofs.Ytmmliepkcgdnlaa
open Go.RowKit
set_option linter.unusedVariables false
set_option maxRecDepth 20000
/-- what is behind each first rune -/
def grpS : Nat → List Tx → List (List Tx)
  | 0, _ => []
  | n + 1, l => if l = [] then [] else (folS l).2 :: grpS n (l.drop (folS l).2.length)
/-- what is come to from the texts -/
inductive Der : List Tx → List Tx → Prop
  | refl (s : List Tx) : Der s s
  | step {s y x : List Tx} : y ∈ grpS (bodS s).length (bodS s) → Der y x → Der s x
theorem reach_der : ∀ (f : Nat) (st : List GN) (s x : List Tx), x ∈ restsG (reachF f st s).2 → x ∈ restsG st ∨ Der s x
  | 0, st, s, x, h => Or.inl h
  | f + 1, st, s, x, h => by
    unfold reachF at h
    cases hf : findG st s with
    | some i => rw [hf] at h; exact Or.inl h
    | none =>
      rw [hf] at h
      simp only at h
      obtain ⟨g, hg, e⟩ := List.mem_map.1 h
      rcases List.mem_or_eq_of_mem_set hg with hg | rfl
      · have key : ∀ (n : Nat) (l : List Tx) (es : List EdP) (st1 : List GN) (x : List Tx), x ∈ restsG (edgesF (reachF f) n l es st1).2 → x ∈ restsG st1 ∨ ∃ y, y ∈ grpS n l ∧ Der y x := by
          intro n
          induction n with
          | zero => intro l es st1 x h; exact Or.inl h
          | succ n ih =>
            intro l es st1 x h
            unfold edgesF at h
            by_cases h0 : l = []
            · rw [if_pos h0] at h; exact Or.inl h
            · rw [if_neg h0] at h
              rcases ih _ _ _ x h with h1 | ⟨y, h1, h2⟩
              · rcases reach_der f st1 _ x h1 with h2 | h2
                · exact Or.inl h2
                · exact Or.inr ⟨_, by unfold grpS; rw [if_neg h0]; exact List.mem_cons_self, h2⟩
              · exact Or.inr ⟨y, by unfold grpS; rw [if_neg h0]; exact List.mem_cons_of_mem _ h1, h2⟩
        rcases key _ _ _ _ x (List.mem_map.2 ⟨g, hg, e⟩) with h1 | ⟨y, h1, h2⟩
        · rw [restsG_app] at h1
          rcases List.mem_append.1 h1 with h1 | h1
          · exact Or.inl h1
          · simp only [restsG, List.map_cons, List.map_nil, List.mem_singleton] at h1
            exact Or.inr (h1 ▸ Der.refl s)
        · exact Or.inr (Der.step h1 h2)
      · exact Or.inr (e ▸ Der.refl s)
theorem grp_in {R : List (List Tx)} : ∀ (n : Nat) (l : List Tx) (es : List EdP) (y : List Tx), EdOk R l es → y ∈ grpS n l → y ∈ R
  | 0, l, es, y, _, h => by simp [grpS] at h
  | n + 1, l, [], y, h0, h => by
    have h1 : l = [] := h0
    unfold grpS at h; rw [if_pos h1] at h; simp at h
  | n + 1, l, e :: es, y, h0, h => by
    obtain ⟨h1, h2, ⟨k, h3, h4⟩, h5⟩ := h0
    unfold grpS at h; rw [if_neg h1] at h
    rcases List.mem_cons.1 h with rfl | h
    · exact List.mem_of_getElem? h4
    · exact grp_in n _ es y h5 h
theorem der_in {st : List GN} {ts s x : List Tx} (G : GOk st ts) (h : Der s x) : s ∈ restsG st → x ∈ restsG st := by
  induction h with
  | refl => exact id
  | step hy hd ih =>
    intro hs
    obtain ⟨g, hg, e⟩ := List.mem_map.1 hs
    have h1 := (G.nodes g hg).ed
    rw [e] at h1
    exact ih (grp_in _ _ _ _ h1 hy)
theorem root_mem {st : List GN} {ts : List Tx} (G : GOk st ts) : ts ∈ restsG st := List.mem_of_getElem? G.root
/-- the nodes are just what is come to -/
theorem gr_der {ts : List Tx} (h : goodV ts = 0) (hs : ∀ t ∈ ts, t.size ≤ 100) (x : List Tx) : x ∈ restsG (grS ts) ↔ Der ts x := by
  refine ⟨fun hx => ?_, fun hx => der_in (grS_ok h hs) hx (root_mem (grS_ok h hs))⟩
  rcases reach_der 13 [] ts x hx with h1 | h1
  · simp [restsG] at h1
  · exact h1
theorem len_sub {α : Type} [DecidableEq α] : ∀ (l m : List α), l.Nodup → (∀ x ∈ l, x ∈ m) → l.length ≤ m.length
  | [], m, _, _ => by simp
  | a :: l, m, h, hm => by
    rw [List.nodup_cons] at h
    have h1 := len_sub l (m.erase a) h.2 (fun x hx => (List.mem_erase_of_ne (fun (e : x = a) => h.1 (e ▸ hx))).2 (hm x (by simp [hx])))
    have h2 : a ∈ m := hm a (by simp)
    have h3 := List.length_erase_of_mem h2
    have h4 := List.length_pos_of_mem h2
    simp only [List.length_cons]
    omega
theorem tw_all {α : Type} {p : α → Bool} : ∀ {l : List α}, (∀ x ∈ l, p x = true) → l.takeWhile p = l
  | [], _ => rfl
  | a :: l, h => by rw [List.takeWhile_cons_of_pos (h a (by simp)), tw_all (fun x hx => h x (by simp [hx]))]
def preS (s : Tx) (l : List Tx) : List Tx := l.map (fun t => s ++ t)
theorem lab_join {s : Tx} (h : 0 ≤ lenS s) (h0 : 0 < s.size) (t : Tx) : labS (s ++ t) = labS s ∧ rstS (s ++ t) = rstS s ++ t := by
  obtain ⟨h1, h2, -⟩ := good_first h h0
  obtain ⟨h3, h4⟩ := decode_left s t 0 h0 h1
  refine ⟨by unfold labS; rw [h3], ?_⟩
  unfold rstS
  rw [h3]
  apply tx_ext
  simp only [ByteArray.data_extract, ByteArray.data_append, Array.toList_extract, Array.toList_append, List.extract_eq_take_drop, ByteArray.size_append]
  have e1 : s.data.toList.length = s.size := by simp
  have e2 : t.data.toList.length = t.size := by simp
  rw [List.drop_append_of_le_length (by omega), List.take_of_length_le (by simp; omega), List.take_of_length_le (by simp)]
theorem der_pre {s : Tx} (h : 0 ≤ lenS s) (h0 : 0 < s.size) {l : List Tx} (hl : l ≠ []) (x : List Tx) : Der (preS s l) x ↔ x = preS s l ∨ Der (preS (rstS s) l) x := by
  have hsz : ∀ t, s ++ t ≠ (⟨#[]⟩ : ByteArray) := fun t e => by
    have h1 := congrArg ByteArray.size e
    rw [ByteArray.size_append] at h1
    have h2 : (⟨#[]⟩ : ByteArray).size = 0 := rfl
    omega
  have hb : bodS (preS s l) = preS s l := by
    unfold bodS finS
    cases l with
    | nil => exact absurd rfl hl
    | cons a l => simp [preS, hsz a]
  have hf : (folS (preS s l)).2 = preS (rstS s) l := by
    cases l with
    | nil => exact absurd rfl hl
    | cons a l =>
      show ((preS s (a :: l)).takeWhile (fun t => decide (labS t = labS (s ++ a)))).map rstS = _
      rw [tw_all (fun t ht => by
        obtain ⟨u, -, rfl⟩ := List.mem_map.1 ht
        simp [(lab_join h h0 u).1, (lab_join h h0 a).1])]
      unfold preS
      rw [List.map_map]
      exact List.map_congr_left fun t _ => (lab_join h h0 t).2
  have hg : grpS (bodS (preS s l)).length (bodS (preS s l)) = [preS (rstS s) l] := by
    rw [hb]
    have hlen : (preS s l).length = (l.length - 1) + 1 := by
      have := List.length_pos_iff.2 hl
      simp [preS]; omega
    rw [hlen]
    unfold grpS
    have hne : preS s l ≠ [] := by simp [preS, hl]
    rw [if_neg hne, hf]
    have hd : (preS s l).drop (preS (rstS s) l).length = [] := by
      apply List.drop_eq_nil_of_le; simp [preS]
    rw [hd]
    congr 1
    cases l.length - 1 with
    | zero => rfl
    | succ n => rfl
  constructor
  · intro hd
    cases hd with
    | refl => exact Or.inl rfl
    | step hy hd =>
      rw [hg] at hy
      rw [List.mem_singleton] at hy
      exact Or.inr (hy ▸ hd)
  · rintro (rfl | hd)
    · exact Der.refl _
    · exact Der.step (by rw [hg]; exact List.mem_singleton.2 rfl) hd
def maxL (l : List Tx) (m : Int) : Prop := (∀ t ∈ l, 0 ≤ lenS t ∧ lenS t ≤ m) ∧ ∃ t ∈ l, lenS t = m
theorem grp_max : ∀ (n : Nat) (l y : List Tx) (m : Int), (∀ t ∈ l, 0 ≤ lenS t ∧ lenS t ≤ m) → (∀ t ∈ l, 0 < t.size) → y ∈ grpS n l → ∀ t ∈ y, 0 ≤ lenS t ∧ lenS t ≤ m
  | 0, l, y, m, _, _, h => by simp [grpS] at h
  | n + 1, l, y, m, hl, hp, h => by
    unfold grpS at h
    by_cases h0 : l = []
    · rw [if_pos h0] at h; simp at h
    · rw [if_neg h0] at h
      rcases List.mem_cons.1 h with rfl | h
      · intro t ht
        obtain ⟨k, hk, h1, h2⟩ := fol_split h0
        rw [h2] at ht
        obtain ⟨u, hu, rfl⟩ := List.mem_map.1 ht
        have hm := List.mem_of_mem_take hu
        have h3 := rst_len (hl u hm).1 (hp u hm)
        have h4 := hl u hm
        omega
      · exact grp_max n _ y m (fun t ht => hl t (List.mem_of_mem_drop ht)) (fun t ht => hp t (List.mem_of_mem_drop ht)) h
theorem max_ex : ∀ (l : List Tx), l ≠ [] → ∃ t ∈ l, ∀ u ∈ l, lenS u ≤ lenS t
  | [], h => absurd rfl h
  | [a], _ => ⟨a, by simp, fun u hu => by simp at hu; rw [hu]; omega⟩
  | a :: b :: l, _ => by
    obtain ⟨t, ht, h⟩ := max_ex (b :: l) (by simp)
    by_cases hc : lenS a ≤ lenS t
    · exact ⟨t, List.mem_cons_of_mem _ ht, fun u hu => by
        rcases List.mem_cons.1 hu with rfl | hu
        · exact hc
        · exact h u hu⟩
    · exact ⟨a, by simp, fun u hu => by
        rcases List.mem_cons.1 hu with rfl | hu
        · omega
        · have := h u hu; omega⟩
theorem der_max {st : List GN} {ts s x : List Tx} (G : GOk st ts) (m : Int) (h : Der s x) : s ∈ restsG st → (∀ t ∈ s, 0 ≤ lenS t ∧ lenS t ≤ m) → ∀ t ∈ x, 0 ≤ lenS t ∧ lenS t ≤ m := by
  induction h with
  | refl => exact fun _ h => h
  | step hy hd ih =>
    intro hs hm
    obtain ⟨g, hg, e⟩ := List.mem_map.1 hs
    have h1 := (G.nodes g hg).ed
    have h2 := (G.nodes g hg).ok
    rw [e] at h1 h2
    refine ih (grp_in _ _ _ _ h1 hy) (grp_max _ _ _ m (fun t ht => ?_) (bod_pos h2.ord) hy)
    unfold bodS at ht
    split at ht
    · exact hm t (List.mem_of_mem_tail ht)
    · exact hm t ht
def chainS : Nat → Tx → List Tx → List (List Tx)
  | 0, _, _ => []
  | n + 1, s, l => preS s l :: chainS n (rstS s) l
theorem pos_len {s : Tx} (h : 0 < lenS s) : 0 < s.size := by have := (lenS_bd s).2; omega
theorem chain_len (l : List Tx) : ∀ (n : Nat) (s : Tx), (chainS n s l).length = n
  | 0, s => rfl
  | n + 1, s => by simp [chainS, chain_len l n]
theorem pre_len {s : Tx} (h : 0 ≤ lenS s) {l : List Tx} {m : Int} (hm : maxL l m) : maxL (preS s l) (lenS s + m) := by
  obtain ⟨h1, t, h2, h3⟩ := hm
  refine ⟨fun u hu => ?_, s ++ t, List.mem_map.2 ⟨t, h2, rfl⟩, by rw [lenS_join s t h (h1 t h2).1, h3]⟩
  obtain ⟨v, hv, rfl⟩ := List.mem_map.1 hu
  have h4 := h1 v hv
  rw [lenS_join s v h h4.1]
  omega
theorem chain_max {l : List Tx} {m : Int} (hm : maxL l m) : ∀ (n : Nat) (s : Tx), lenS s = n → ∀ x ∈ chainS n s l, ∃ k : Int, m < k ∧ k ≤ m + n ∧ maxL x k
  | 0, s, _, x, hx => by simp [chainS] at hx
  | n + 1, s, hs, x, hx => by
    have h0 : 0 < s.size := pos_len (by omega)
    rcases List.mem_cons.1 hx with rfl | hx
    · exact ⟨lenS s + m, by omega, by omega, pre_len (by omega) hm⟩
    · have h1 := rst_len (t := s) (by omega) h0
      obtain ⟨k, k1, k2, k3⟩ := chain_max hm n (rstS s) (by omega) x hx
      exact ⟨k, k1, by omega, k3⟩
theorem max_one {l : List Tx} {a b : Int} (h : maxL l a) (k : maxL l b) : a = b := by
  obtain ⟨h1, t, h2, h3⟩ := h
  obtain ⟨k1, u, k2, k3⟩ := k
  have e1 := k1 t h2
  have e2 := h1 u k2
  omega
theorem chain_nodup {l : List Tx} {m : Int} (hm : maxL l m) : ∀ (n : Nat) (s : Tx), lenS s = n → (chainS n s l).Nodup
  | 0, s, _ => List.nodup_nil
  | n + 1, s, hs => by
    have h0 : 0 < s.size := pos_len (by omega)
    have h1 := rst_len (t := s) (by omega) h0
    refine List.nodup_cons.2 ⟨fun hx => ?_, chain_nodup hm n (rstS s) (by omega)⟩
    obtain ⟨k, k1, k2, k3⟩ := chain_max hm n (rstS s) (by omega) _ hx
    have := max_one k3 (pre_len (s := s) (by omega) hm)
    omega
theorem chain_der {l : List Tx} (hl : l ≠ []) : ∀ (n : Nat) (s : Tx), lenS s = n → ∀ x, Der (preS s l) x ↔ x ∈ chainS n s l ∨ Der l x
  | 0, s, hs, x => by
    have h1 := lenS_pos (s := s) (by omega)
    have h2 : runesS s = [] := List.eq_nil_of_length_eq_zero (by have := h1.2; omega)
    have h3 := empty_of s (runes_none s h2)
    have h4 : preS s l = l := by
      unfold preS
      rw [h3]
      refine (List.map_congr_left fun t _ => ?_).trans (List.map_id l)
      apply tx_ext; simp
    rw [h4]
    simp [chainS]
  | n + 1, s, hs, x => by
    have h0 : 0 < s.size := pos_len (by omega)
    have h1 := rst_len (t := s) (by omega) h0
    rw [der_pre (by omega) h0 hl, chain_der hl n (rstS s) (by omega) x, chainS, List.mem_cons, or_assoc]
/-- a beginning more: a node for each of its runes -/
theorem graph_put {ts : List Tx} {s : Tx} (hn : ts ≠ []) (hg : goodV ts = 0) (hz : ∀ t ∈ ts, t.size ≤ 100) (hs : 0 ≤ lenS s) (hg2 : goodV (preS s ts) = 0) (hz2 : ∀ t ∈ preS s ts, t.size ≤ 100) :
    ((grS (preS s ts)).length : Int) = (grS ts).length + lenS s := by
  obtain ⟨n, hsn⟩ : ∃ n : Nat, lenS s = n := ⟨(lenS s).toNat, by omega⟩
  have hok := ok_good hg hz
  obtain ⟨t0, ht0, htm⟩ := max_ex ts hn
  have hm : maxL ts (lenS t0) := ⟨fun t ht => ⟨hok.lo t ht, htm t ht⟩, t0, ht0, rfl⟩
  have G := grS_ok hg hz
  have G2 := grS_ok hg2 hz2
  have hnd : (chainS n s ts ++ restsG (grS ts)).Nodup := by
    refine List.nodup_append.2 ⟨chain_nodup hm n s hsn, G.nodup, fun a ha b hb e => ?_⟩
    subst e
    obtain ⟨k, k1, k2, k3, t, k4, k5⟩ := chain_max hm n s hsn a ha
    have h1 := der_max G (lenS t0) ((gr_der hg hz a).1 hb) (root_mem G) hm.1 t k4
    omega
  have hmem : ∀ x, x ∈ restsG (grS (preS s ts)) ↔ x ∈ chainS n s ts ++ restsG (grS ts) := fun x => by
    rw [gr_der hg2 hz2, chain_der hn n s hsn, List.mem_append, gr_der hg hz]
  have e1 := len_sub _ _ G2.nodup (fun x hx => (hmem x).1 hx)
  have e2 := len_sub _ _ hnd (fun x hx => (hmem x).2 hx)
  rw [List.length_append, chain_len] at e1 e2
  simp only [restsG, List.length_map] at e1 e2
  omega
theorem cmpL_app : ∀ (p x y : List UInt8), cmpL (p ++ x) (p ++ y) = cmpL x y
  | [], x, y => rfl
  | a :: p, x, y => by
    rw [List.cons_append, List.cons_append, cmpL_cons, if_neg (by omega), if_neg (by omega), cmpL_app p]
theorem cmp_pre (s x y : Tx) : cmpS (s ++ x) (s ++ y) = cmpS x y := by
  unfold cmpS
  rw [ByteArray.toList_eq, ByteArray.toList_eq, ByteArray.toList_eq, ByteArray.toList_eq]
  simp only [ByteArray.data_append, Array.toList_append]
  exact cmpL_app _ _ _
theorem good_pre {ts : List Tx} {s : Tx} (hg : goodV ts = 0) (hs : 0 ≤ lenS s) (hw : ∀ t ∈ ts, lenS t + lenS s ≤ 12) : goodV (preS s ts) = 0 := by
  obtain ⟨h1, h2, h3⟩ := goodV_zero hg
  refine goodV_good (by simp [preS]; exact h1) (fun t ht => ?_) ?_
  · obtain ⟨u, hu, rfl⟩ := List.mem_map.1 ht
    have h4 := h2 u hu
    have h5 := hw u hu
    unfold wordP at *
    rw [lenS_join s u hs (by omega)]
    omega
  · unfold SortedS preS
    rw [List.pairwise_map]
    exact h3.imp fun h => by rw [cmp_pre]; exact h
end Go.Proofs.Ytmmliepkcgdnlaa
/- a list of texts that was answered -/
namespace Go.Proofs.Ytmmliepkcgdnlaa
open Go.RowKit
set_option linter.unusedVariables false
set_option maxRecDepth 20000
theorem str_info : (Try.prog.info? 9).map (fun i => (i.zero, i.size, i.bytes)) = some (some (.string ⟨#[]⟩), 1, 16) := by kernel_rfl
theorem getD_memT' (zs : List Tx) (j : Nat) (h : j < zs.length) : zs.getD j ByteArray.empty ∈ zs := by
  rw [List.getD_eq_getElem?_getD, List.getElem?_eq_getElem h]; simp
/-- a list of texts that was answered, the call's own -/
def RetO (w : World) (ys : List Tx) (e : Ending) (w' : World) : Prop := ∃ a c, e = .returned (.slice a ys.length c) ∧ w'.ownsRow w.heap.size 9 1 (.slice a ys.length c) ys.length (strsV ys) ∧ Below w.heap.size w w'
theorem ret_own {w w' : World} {a : Option Addr} {c n : Nat} {ys zs : List Tx} (h : ys = zs) (hn : ys.length = n) (hh : w'.ownsRow w.heap.size 9 1 (.slice a n c) n (strsV ys)) (hb : Below w.heap.size w w') (v : Value) (hv : v = .slice a n c) : RetO w zs (.returned v) w' := by
  subst h hv hn; exact ⟨a, c, rfl, hh, hb⟩
end Go.Proofs.Ytmmliepkcgdnlaa
/- contract of list.Merge -/
namespace Go.Proofs.Ytmmliepkcgdnlaa
open Go.RowKit
set_option linter.unusedVariables false
set_option maxRecDepth 20000
/-- 'make([]T, 0, c)': a slice of the call's own with room -/
theorem wpList_make_room {P : Program} (w : World) {ops : Array Oper} {rest : List Oper} {o : Oper} {a : Act} {Q : Exit → Act → World → Prop}
    (hg : o.guard = none) (l c : Operand) (t : TypeId) (hop : o.op = Op.makeSlice t l c)
    (e : TypeId) (i : TypeInfo) (z : Value) (bytes : Nat) (ht : P.underlying t = some (.slice e)) (hi : P.info? e = some i) (hz : i.zero = some z) (hsize : i.size = 1) (hby : i.bytes = bytes) (hz1 : z.cells = #[z])
    (base n : Nat) (hl : a.eval l = .int .i64 0) (cv : Int) (hc : a.eval c = .int .i64 cv) (hcv : cv = (n : Int)) (hbytes : bytes * n ≤ 281474976710656) (h63 : n ≤ maxLen) (hbase : base ≤ w.heap.size)
    (hK : ∀ w', w'.ownsRow base e 1 (.slice (some ⟨w.heap.size, 0, none⟩) 0 n) 0 [] → Below base w w' → wpList P ops Q rest (a.put o.dst (.slice (some ⟨w.heap.size, 0, none⟩) 0 n)) w') :
    wpList P ops Q (o :: rest) a w := by
  subst hcv
  refine wpList_plain hg fun K hK' => ?_
  have hb' : (i.bytes : Int) * (n : Int) ≤ 281474976710656 := by
    rw [hby]
    have h : ((bytes * n : Nat) : Int) ≤ 281474976710656 := by omega
    rwa [Int.natCast_mul] at h
  have hrun := run_make (P := P) w t e i z ht hi hz .i64 .i64 0 n (Int.le_refl _) (by omega) hb' (by unfold maxLen at h63; omega)
  simp only [Int.toNat_natCast, Int.toNat_zero, hsize, Nat.mul_one, hz1] at hrun
  unfold Oper.wp
  simp [execOp, hop, hl, hc, hrun, Result.andThen]
  refine hK' _ _ (hK _ ?_ ((Below.refl _ _).alloc hbase _))
  exact ⟨rfl, .inr ⟨w.heap.size, n, _, rfl, hbase, heap_alloc_new w _, Nat.zero_le _, h63, by simp [madeCells], by simp⟩⟩
theorem mergeL_lt {x y : Tx} {xs ys : List Tx} (h : cmpS x y < 0) : mergeL (x :: xs) (y :: ys) = x :: mergeL xs (y :: ys) := by rw [mergeL_cons, if_pos h]
theorem mergeL_eq {x y : Tx} {xs ys : List Tx} (h : cmpS x y = 0) : mergeL (x :: xs) (y :: ys) = x :: mergeL xs ys := by rw [mergeL_cons, if_neg (by omega), if_pos h]
theorem mergeL_gt {x y : Tx} {xs ys : List Tx} (h : 0 < cmpS x y) : mergeL (x :: xs) (y :: ys) = y :: mergeL (x :: xs) ys := by rw [mergeL_cons, if_neg (by omega), if_neg (by omega)]
theorem merge_step {M P : List Tx} {x y : Tx} {xs ys : List Tx} {i j : Nat} (hM : M = P ++ mergeL (xs.drop i) (ys.drop j)) (hx : xs.drop i = x :: xs.drop (i + 1)) (hy : ys.drop j = y :: ys.drop (j + 1)) :
    (cmpS x y < 0 → M = (P ++ [x]) ++ mergeL (xs.drop (i + 1)) (ys.drop j)) ∧ (cmpS x y = 0 → M = (P ++ [x]) ++ mergeL (xs.drop (i + 1)) (ys.drop (j + 1))) ∧ (0 < cmpS x y → M = (P ++ [y]) ++ mergeL (xs.drop i) (ys.drop (j + 1))) := by
  refine ⟨fun h => ?_, fun h => ?_, fun h => ?_⟩
  · rw [hM, hx, hy, mergeL_lt h, List.append_assoc]; rfl
  · rw [hM, hx, hy, mergeL_eq h, List.append_assoc]; rfl
  · rw [hM, hx, hy, mergeL_gt h, List.append_assoc]; rfl
theorem HoldsT.tail {w : World} {b o m : Nat} {ts : List Tx} (h : HoldsT w (some ⟨b, o, none⟩) (m + 1) ts) : HoldsT w (some ⟨b, o + 1, none⟩) m (ts.drop 1) := by
  have := h.drop 1 (by omega)
  simpa using this
theorem HoldsT.tail' {w : World} {b o q c : Nat} {ts : List Tx} (h : HoldsT w (some ⟨b, o, none⟩) (q + 1) ts) (hc : q + 1 ≤ c) : HoldsT w (if c = 1 then some ⟨b, o, none⟩ else some ⟨b, o + 1, none⟩) q (ts.drop 1) := by
  split
  · obtain rfl : q = 0 := by omega
    have := h.tail
    exact ⟨this.1, fun h => absurd h (by omega)⟩
  · exact h.tail
theorem ite_none {p : Prop} {c : Prop} [Decidable c] (a b : Addr) : ((if c then some a else some b) = none) → p := by split <;> exact fun h => by cases h
def lenV : Value → Nat | .slice _ n _ => n | _ => 0
end Go.Proofs.Ytmmliepkcgdnlaa
/- contract of the document's 'one'; it is the runes that a range yields -/
namespace Go.Proofs.Ytmmliepkcgdnlaa
open Go.RowKit
set_option linter.unusedVariables false
set_option maxRecDepth 20000
def oneV (s : ByteArray) (i : Nat) : Int × Int :=
  if byteS s i < 128 then ((byteS s i : Int), 1)
  else if (194 ≤ byteS s i ∧ byteS s i ≤ 223) ∧ moreP s (i + 1) then (((byteS s i : Int) - 192) * 64 + moreV s (i + 1), 2)
  else if (224 ≤ byteS s i ∧ byteS s i ≤ 239) ∧ moreP s (i + 1) ∧ moreP s (i + 2) then (((byteS s i : Int) - 224) * 4096 + moreV s (i + 1) * 64 + moreV s (i + 2), 3)
  else if (240 ≤ byteS s i ∧ byteS s i ≤ 244) ∧ moreP s (i + 1) ∧ moreP s (i + 2) ∧ moreP s (i + 3) then (((byteS s i : Int) - 240) * 262144 + moreV s (i + 1) * 4096 + moreV s (i + 2) * 64 + moreV s (i + 3), 4)
  else (0, 0)
theorem moreV_bd (s : ByteArray) (i : Nat) : 0 ≤ moreV s i ∧ moreV s i ≤ 63 := by
  unfold moreV
  split
  · rename_i h; unfold moreP at h; omega
  · omega
theorem more_lit (s : ByteArray) (i : Nat) (k : Int) (w : World) (hs : s.size ≤ 1048576) (hi : i ≤ 1048580) (p : Bool) (v : Int) (hk : (i : Int) = k) (hp : decide (moreP s i) = p) (hv : moreV s i = v) :
    Calls Try.prog 83 #[.string s, .int .i64 k] w fun e w' => e = .returned (.tuple #[.int .i32 v, .bool p]) ∧ w = w' := by
  subst hp hv hk; exact more_any s i w hs hi
def badP (r n : Int) : Prop := n = 0 ∨ ¬ goodP r ∨ (n = 3 ∧ r < 2048) ∨ (n = 4 ∧ r < 65536)
instance (r n : Int) : Decidable (badP r n) := by unfold badP; infer_instance
set_option maxHeartbeats 1600000 in
theorem one_decode (s : ByteArray) (i : Nat) (hi : i < s.size) :
    (badP (oneV s i).1 (oneV s i).2 → (Utf8.decode s i).1 = 65533) ∧
    (¬ badP (oneV s i).1 (oneV s i).2 → (oneV s i).1 = ((Utf8.decode s i).1 : Int) ∧ (oneV s i).2 = ((Utf8.decode s i).2 : Int) ∧ (Utf8.decode s i).1 ≠ 65533) := by
  rw [Lib.decode_at]
  have e1 : moreP s (i + 1) ↔ (1 < s.size - i ∧ 128 ≤ byteS s (i + 1) ∧ byteS s (i + 1) ≤ 191) := by unfold moreP; omega
  have e2 : moreP s (i + 2) ↔ (2 < s.size - i ∧ 128 ≤ byteS s (i + 2) ∧ byteS s (i + 2) ≤ 191) := by unfold moreP; omega
  have e3 : moreP s (i + 3) ↔ (3 < s.size - i ∧ 128 ≤ byteS s (i + 3) ∧ byteS s (i + 3) ≤ 191) := by unfold moreP; omega
  have l0 := byteS_lt s i
  have l1 := byteS_lt s (i + 1)
  have l2 := byteS_lt s (i + 2)
  have l3 := byteS_lt s (i + 3)
  unfold oneV moreV
  simp only [e1, e2, e3]
  show (_ → (Lib.decodeN (s.size - i) (byteS s i) (byteS s (i + 1)) (byteS s (i + 2)) (byteS s (i + 3))).1 = 65533) ∧ (_ → _ = ((Lib.decodeN (s.size - i) (byteS s i) (byteS s (i + 1)) (byteS s (i + 2)) (byteS s (i + 3))).1 : Int) ∧ _ = ((Lib.decodeN (s.size - i) (byteS s i) (byteS s (i + 1)) (byteS s (i + 2)) (byteS s (i + 3))).2 : Int) ∧ (Lib.decodeN (s.size - i) (byteS s i) (byteS s (i + 1)) (byteS s (i + 2)) (byteS s (i + 3))).1 ≠ 65533)
  have hn : 0 < s.size - i := by omega
  clear e1 e2 e3
  generalize s.size - i = n at *
  generalize byteS s i = b0 at *
  generalize byteS s (i + 1) = b1 at *
  generalize byteS s (i + 2) = b2 at *
  generalize byteS s (i + 3) = b3 at *
  unfold Lib.decodeN badP goodP
  by_cases h0 : b0 < 128
  · simp only [h0, if_true]
    refine ⟨fun h => ?_, fun h => ⟨?_, ?_, ?_⟩⟩ <;> first | trivial | omega
  simp only [h0, if_false]
  by_cases hA : (194 ≤ b0 ∧ b0 ≤ 223) ∧ 1 < n ∧ 128 ≤ b1 ∧ b1 ≤ 191
  · obtain ⟨⟨a1, a2⟩, a3, a4, a5⟩ := hA
    have c1 : b0 / 32 = 6 ∧ 1 < n ∧ b1 / 64 = 2 := by omega
    have c2 : b0 % 32 * 64 + b1 % 64 ≥ 128 := by omega
    rw [if_pos ⟨⟨a1, a2⟩, a3, a4, a5⟩, if_pos c1, if_pos c2, if_pos ⟨a3, a4, a5⟩]
    dsimp only
    refine ⟨fun h => ?_, fun h => ⟨?_, ?_, ?_⟩⟩ <;> omega
  rw [if_neg hA]
  by_cases hB : (224 ≤ b0 ∧ b0 ≤ 239) ∧ (1 < n ∧ 128 ≤ b1 ∧ b1 ≤ 191) ∧ 2 < n ∧ 128 ≤ b2 ∧ b2 ≤ 191
  · obtain ⟨⟨a1, a2⟩, ⟨a3, a4, a5⟩, a6, a7, a8⟩ := hB
    have c0 : ¬ (b0 / 32 = 6 ∧ 1 < n ∧ b1 / 64 = 2) := by omega
    have c1 : b0 / 16 = 14 ∧ (1 < n ∧ b1 / 64 = 2) ∧ 2 < n ∧ b2 / 64 = 2 := by omega
    rw [if_pos ⟨⟨a1, a2⟩, ⟨a3, a4, a5⟩, a6, a7, a8⟩, if_neg c0, if_pos c1, if_pos ⟨a3, a4, a5⟩, if_pos ⟨a6, a7, a8⟩]
    clear c0 c1 hA
    split
    all_goals
      dsimp only
      refine ⟨fun h => ?_, fun h => ⟨?_, ?_, ?_⟩⟩ <;> omega
  rw [if_neg hB]
  by_cases hC : (240 ≤ b0 ∧ b0 ≤ 244) ∧ (1 < n ∧ 128 ≤ b1 ∧ b1 ≤ 191) ∧ (2 < n ∧ 128 ≤ b2 ∧ b2 ≤ 191) ∧ 3 < n ∧ 128 ≤ b3 ∧ b3 ≤ 191
  · obtain ⟨⟨a1, a2⟩, ⟨a3, a4, a5⟩, ⟨a6, a7, a8⟩, a9, a10, a11⟩ := hC
    have c0 : ¬ (b0 / 32 = 6 ∧ 1 < n ∧ b1 / 64 = 2) := by omega
    have c1 : ¬ (b0 / 16 = 14 ∧ (1 < n ∧ b1 / 64 = 2) ∧ 2 < n ∧ b2 / 64 = 2) := by omega
    have c2 : b0 / 8 = 30 ∧ (1 < n ∧ b1 / 64 = 2) ∧ (2 < n ∧ b2 / 64 = 2) ∧ 3 < n ∧ b3 / 64 = 2 := by omega
    rw [if_pos ⟨⟨a1, a2⟩, ⟨a3, a4, a5⟩, ⟨a6, a7, a8⟩, a9, a10, a11⟩, if_neg c0, if_neg c1, if_pos c2, if_pos ⟨a3, a4, a5⟩, if_pos ⟨a6, a7, a8⟩, if_pos ⟨a9, a10, a11⟩]
    clear c0 c1 c2 hA hB
    split
    all_goals
      dsimp only
      refine ⟨fun h => ?_, fun h => ⟨?_, ?_, ?_⟩⟩ <;> omega
  rw [if_neg hC]
  refine ⟨fun _ => ?_, fun h => absurd (Or.inl rfl) h⟩
  by_cases d1 : b0 / 32 = 6 ∧ 1 < n ∧ b1 / 64 = 2
  · rw [if_pos d1, if_neg (by omega)]
  rw [if_neg d1]
  by_cases d2 : b0 / 16 = 14 ∧ (1 < n ∧ b1 / 64 = 2) ∧ 2 < n ∧ b2 / 64 = 2
  · omega
  rw [if_neg d2]
  by_cases d3 : b0 / 8 = 30 ∧ (1 < n ∧ b1 / 64 = 2) ∧ (2 < n ∧ b2 / 64 = 2) ∧ 3 < n ∧ b3 / 64 = 2
  · rw [if_pos d3, if_neg (by omega)]
  rw [if_neg d3]
end Go.Proofs.Ytmmliepkcgdnlaa
/- contracts of the document's 'one' and Runes -/
namespace Go.Proofs.Ytmmliepkcgdnlaa
open Go.RowKit
set_option linter.unusedVariables false
set_option maxRecDepth 20000
set_option maxRecDepth 100000 in
set_option maxHeartbeats 6400000 in
theorem one_any (s : ByteArray) (i : Nat) (w : World) (hs : s.size ≤ 1048576) (hi : i < s.size) :
    Calls Try.prog 67 #[.string s, .int .i64 i] w fun e w' => e = .returned (.tuple #[.int .i32 (oneV s i).1, .int .i64 (oneV s i).2]) ∧ w = w' := by
  have hx := byteS_at s i hi
  have hb := byteS_lt s i
  obtain ⟨p1, hp1⟩ : ∃ p, decide (moreP s (i + 1)) = p := ⟨_, rfl⟩
  obtain ⟨p2, hp2⟩ : ∃ p, decide (moreP s (i + 2)) = p := ⟨_, rfl⟩
  obtain ⟨p3, hp3⟩ : ∃ p, decide (moreP s (i + 3)) = p := ⟨_, rfl⟩
  have i1 : moreP s (i + 1) ↔ p1 = true := by rw [← hp1]; simp
  have i2 : moreP s (i + 2) ↔ p2 = true := by rw [← hp2]; simp
  have i3 : moreP s (i + 3) ↔ p3 = true := by rw [← hp3]; simp
  obtain ⟨A, hA⟩ : ∃ A, moreV s (i + 1) = A := ⟨_, rfl⟩
  obtain ⟨B, hB⟩ : ∃ A, moreV s (i + 2) = A := ⟨_, rfl⟩
  obtain ⟨C, hC⟩ : ∃ A, moreV s (i + 3) = A := ⟨_, rfl⟩
  have m1 := Lib.hid (more_lit s (i + 1) ((i : Int) + 1) w hs (by omega) p1 A (by omega) hp1 hA)
  have m2 := Lib.hid (more_lit s (i + 2) ((i : Int) + 2) w hs (by omega) p2 B (by omega) hp2 hB)
  have m3 := Lib.hid (more_lit s (i + 3) ((i : Int) + 3) w hs (by omega) p3 C (by omega) hp3 hC)
  have bA := moreV_bd s (i + 1); have bB := moreV_bd s (i + 2); have bC := moreV_bd s (i + 3)
  rw [hA] at bA; rw [hB] at bB; rw [hC] at bC
  unfold oneV
  simp only [i1, i2, i3]
  rw [hA, hB, hC]
  obtain ⟨x, hx2⟩ : ∃ x, byteS s i = x := ⟨_, rfl⟩
  rw [hx2] at hx hb
  rw [hx2]
  have j1 : IntKind.i64.wrap ((i : Int) + 1) = (i : Int) + 1 := IntWalk.i64_in _ (by omega)
  have j2 : IntKind.i64.wrap ((i : Int) + 2) = (i : Int) + 2 := IntWalk.i64_in _ (by omega)
  have j3 : IntKind.i64.wrap ((i : Int) + 3) = (i : Int) + 3 := IntWalk.i64_in _ (by omega)
  clear hx2 hA hB hC hp1 hp2 hp3 i1 i2 i3
  have hcase : x < 128 ∨ (128 ≤ x ∧ x < 194) ∨ (128 ≤ x ∧ 194 ≤ x ∧ x ≤ 223) ∨ (128 ≤ x ∧ 194 ≤ x ∧ 223 < x ∧ 224 ≤ x ∧ x ≤ 239) ∨ (128 ≤ x ∧ 194 ≤ x ∧ 223 < x ∧ 224 ≤ x ∧ 239 < x ∧ 240 ≤ x ∧ x ≤ 244) ∨ (128 ≤ x ∧ 194 ≤ x ∧ 223 < x ∧ 224 ≤ x ∧ 239 < x ∧ 240 ≤ x ∧ 244 < x) := by omega
  rcases hcase with c1 | ⟨c0, c1⟩ | ⟨c0, c1, c2⟩ | ⟨c0, c1, c2, c3, c4⟩ | ⟨c0, c1, c2, c3, c4, c5, c6⟩ | ⟨c0, c1, c2, c3, c4, c5, c6⟩
  · rw [if_pos c1]
    go_enter Try.func67, Try.ntmps67
    go_wp2_with fail
    refine m1.out.mono ?_
    rintro e w' ⟨rfl, rfl⟩
    go_wp2_with fail
    refine m2.out.mono ?_
    rintro e w' ⟨rfl, rfl⟩
    go_wp2_with fail
    refine m3.out.mono ?_
    rintro e w' ⟨rfl, rfl⟩
    go_wp2_with fail
    go_ret2
    exact ⟨rfl, rfl⟩
  · rw [if_neg (by omega), if_neg (by omega), if_neg (by omega), if_neg (by omega)]
    go_enter Try.func67, Try.ntmps67
    go_wp2_with fail
    refine m1.out.mono ?_
    rintro e w' ⟨rfl, rfl⟩
    go_wp2_with fail
    refine m2.out.mono ?_
    rintro e w' ⟨rfl, rfl⟩
    go_wp2_with fail
    refine m3.out.mono ?_
    rintro e w' ⟨rfl, rfl⟩
    go_wp2_with fail
    go_ret2
    exact ⟨rfl, rfl⟩
  · rw [if_neg (by omega)]
    cases p1
    · rw [if_neg (by simp), if_neg (by omega), if_neg (by omega)]
      go_enter Try.func67, Try.ntmps67
      go_wp2_with fail
      refine m1.out.mono ?_
      rintro e w' ⟨rfl, rfl⟩
      go_wp2_with fail
      refine m2.out.mono ?_
      rintro e w' ⟨rfl, rfl⟩
      go_wp2_with fail
      refine m3.out.mono ?_
      rintro e w' ⟨rfl, rfl⟩
      go_wp2_with fail
      go_ret2
      exact ⟨rfl, rfl⟩
    · rw [if_pos ⟨⟨c1, c2⟩, rfl⟩]
      go_enter Try.func67, Try.ntmps67
      go_wp2_with fail
      refine m1.out.mono ?_
      rintro e w' ⟨rfl, rfl⟩
      go_wp2_with fail
      refine m2.out.mono ?_
      rintro e w' ⟨rfl, rfl⟩
      go_wp2_with fail
      refine m3.out.mono ?_
      rintro e w' ⟨rfl, rfl⟩
      go_wp2_with fail
      go_ret2
      exact ⟨rfl, rfl⟩
  · rw [if_neg (by omega), if_neg (by omega)]
    by_cases hp : p1 = true ∧ p2 = true
    · obtain ⟨rfl, rfl⟩ := hp
      rw [if_pos ⟨⟨c3, c4⟩, rfl, rfl⟩]
      go_enter Try.func67, Try.ntmps67
      go_wp2_with fail
      refine m1.out.mono ?_
      rintro e w' ⟨rfl, rfl⟩
      go_wp2_with fail
      refine m2.out.mono ?_
      rintro e w' ⟨rfl, rfl⟩
      go_wp2_with fail
      refine m3.out.mono ?_
      rintro e w' ⟨rfl, rfl⟩
      go_wp2_with fail
      go_ret2
      exact ⟨rfl, rfl⟩
    · rw [if_neg (fun h => hp h.2), if_neg (by omega)]
      cases p1 <;> cases p2 <;> simp at hp
      all_goals
        clear hp
        go_enter Try.func67, Try.ntmps67
        go_wp2_with fail
        refine m1.out.mono ?_
        rintro e w' ⟨rfl, rfl⟩
        go_wp2_with fail
        refine m2.out.mono ?_
        rintro e w' ⟨rfl, rfl⟩
        go_wp2_with fail
        refine m3.out.mono ?_
        rintro e w' ⟨rfl, rfl⟩
        go_wp2_with fail
        go_ret2
        exact ⟨rfl, rfl⟩
  · rw [if_neg (by omega), if_neg (by omega), if_neg (by omega)]
    by_cases hp : p1 = true ∧ p2 = true ∧ p3 = true
    · obtain ⟨rfl, rfl, rfl⟩ := hp
      rw [if_pos ⟨⟨c5, c6⟩, rfl, rfl, rfl⟩]
      go_enter Try.func67, Try.ntmps67
      go_wp2_with fail
      refine m1.out.mono ?_
      rintro e w' ⟨rfl, rfl⟩
      go_wp2_with fail
      refine m2.out.mono ?_
      rintro e w' ⟨rfl, rfl⟩
      go_wp2_with fail
      refine m3.out.mono ?_
      rintro e w' ⟨rfl, rfl⟩
      go_wp2_with fail
      go_ret2
      exact ⟨rfl, rfl⟩
    · rw [if_neg (fun h => hp h.2)]
      cases p1 <;> cases p2 <;> cases p3 <;> simp at hp
      all_goals
        clear hp
        go_enter Try.func67, Try.ntmps67
        go_wp2_with fail
        refine m1.out.mono ?_
        rintro e w' ⟨rfl, rfl⟩
        go_wp2_with fail
        refine m2.out.mono ?_
        rintro e w' ⟨rfl, rfl⟩
        go_wp2_with fail
        refine m3.out.mono ?_
        rintro e w' ⟨rfl, rfl⟩
        go_wp2_with fail
        go_ret2
        exact ⟨rfl, rfl⟩
  · rw [if_neg (by omega), if_neg (by omega), if_neg (by omega), if_neg (by omega)]
    go_enter Try.func67, Try.ntmps67
    go_wp2_with fail
    refine m1.out.mono ?_
    rintro e w' ⟨rfl, rfl⟩
    go_wp2_with fail
    refine m2.out.mono ?_
    rintro e w' ⟨rfl, rfl⟩
    go_wp2_with fail
    refine m3.out.mono ?_
    rintro e w' ⟨rfl, rfl⟩
    go_wp2_with fail
    go_ret2
    exact ⟨rfl, rfl⟩
end Go.Proofs.Ytmmliepkcgdnlaa
/- contract of the document's Runes of a text -/
namespace Go.Proofs.Ytmmliepkcgdnlaa
open Go.RowKit
set_option linter.unusedVariables false
set_option maxRecDepth 20000
def RunesP (s : ByteArray) (w : World) (e : Ending) (w' : World) : Prop :=
  (0 ≤ lenS s ∧ ∃ a c, e = .returned (.tuple #[.slice a (runesS s).length c, .bool true]) ∧ HoldsI .i32 w' a (runesS s).length (intsN (runesS s)) ∧ (a = none → (runesS s).length = 0 ∧ c = 0) ∧ Below w.heap.size w w') ∨
  (lenS s < 0 ∧ e = .returned (.tuple #[.slice none 0 0, .bool false]) ∧ Below w.heap.size w w')
/-- the same, told by its memory -/
def RunesQ (s : ByteArray) (w : World) (e : Ending) (w' : World) : Prop :=
  (0 ≤ lenS s ∧ ∃ a c, e = .returned (.tuple #[.slice a (runesS s).length c, .bool true]) ∧ w'.ownsRow w.heap.size 21 1 (.slice a (runesS s).length c) (runesS s).length (runesV (intsN (runesS s))) ∧ Below w.heap.size w w') ∨
  (lenS s < 0 ∧ e = .returned (.tuple #[.slice none 0 0, .bool false]) ∧ Below w.heap.size w w')
theorem intsN_len (P : List Nat) : (intsN P).length = P.length := by simp [intsN]
theorem one_size (s : ByteArray) (i : Nat) : 0 ≤ (oneV s i).2 ∧ (oneV s i).2 ≤ 4 := by unfold oneV; split <;> (try split) <;> (try split) <;> (try split) <;> simp
theorem runesS_bad {s : ByteArray} {P : List Nat} {pos f : Nat} (hP : runesS s = P ++ runesN s f pos) (hlt : pos < s.size) (hf : s.size ≤ pos + f) (h : (Utf8.decode s pos).1 = 65533) : lenS s < 0 := by
  obtain ⟨g, rfl, hst, _⟩ := runesN_step s f pos hlt hf
  rw [hst, h] at hP
  rw [lenS_bad hP]; omega
set_option maxRecDepth 100000 in
set_option maxHeartbeats 6400000 in
theorem r1runesq_any (s : ByteArray) (w : World) (hs : s.size ≤ 1048576) :
    Calls Try.prog 57 #[.string s] w (RunesQ s w) := by
  obtain ⟨i0, hi, hz0, hz1, hz2⟩ := info_parts i32_info
  go_enter Try.func57, Try.ntmps57
  go_wp2_with fail
  go_loopw [4, 5] (fun lv iv wr => ∃ (pos f : Nat) (P : List Nat), s.size ≤ pos + f ∧ iv = .int .i64 pos ∧ pos ≤ s.size + 4 ∧ Hid (runesS s = P ++ runesN s f pos) ∧ Hid (∀ r ∈ P, r ≠ 65533) ∧ Hid (wr.ownsRow w.heap.size 21 1 lv P.length (runesV (intsN P))) ∧ Hid (Below w.heap.size w wr)) (fun _ iv _ => s.size - (intOf iv).toNat)
  case atStart => exact ⟨0, s.size, [], by omega, rfl, by omega, Lib.hid rfl, Lib.hid (by simp), Lib.hid (World.ownsRow_nil _ _ _ _), Lib.hid (Below.refl _ _)⟩
  case round =>
    obtain ⟨pos, f, P, hf, rfl, hpos, hP, hG, hO, hB⟩ := hrel
    by_cases hlt : pos < s.size
    · obtain ⟨d1, d2⟩ := one_decode s pos hlt
      have hbn := one_size s pos
      have hone := Lib.hid (one_any s pos wr hs hlt)
      obtain ⟨R, hR⟩ : ∃ R, (oneV s pos).1 = R := ⟨_, rfl⟩
      obtain ⟨N, hN⟩ : ∃ R, (oneV s pos).2 = R := ⟨_, rfl⟩
      rw [hR, hN] at d1 d2 hone
      rw [hN] at hbn
      clear hR hN
      have BAD := Lib.hid (fun h => runesS_bad hP.out hlt hf (d1 h))
      have GOOD := Lib.hid d2
      clear d1 d2
      have hgd := Lib.hid (good_any R wr)
      by_cases n0 : N = 0
      · have hneg := Lib.hid (BAD.out (Or.inl n0))
        have y1 : (N == 0) = true := by simp [n0]
        clear n0 hgd GOOD BAD
        go_wp2_with fail
        refine hone.out.mono ?_
        rintro e w' ⟨rfl, rfl⟩
        go_wp2_with fail
        go_ret2
        exact Or.inr ⟨hneg.out, rfl, hB.out⟩
      have y1 : (N == 0) = false := by simpa using n0
      by_cases gd : goodP R
      case neg =>
        have hneg := Lib.hid (BAD.out (Or.inr (Or.inl gd)))
        rw [decide_eq_false gd] at hgd
        clear gd GOOD BAD
        go_wp2_with fail
        refine hone.out.mono ?_
        rintro e w' ⟨rfl, rfl⟩
        go_wp2_with fail
        refine hgd.out.mono ?_
        rintro e w' ⟨rfl, rfl⟩
        go_wp2_with fail
        go_ret2
        exact Or.inr ⟨hneg.out, rfl, hB.out⟩
      rw [decide_eq_true gd] at hgd
      by_cases c3 : N = 3 ∧ R < 2048
      · have hneg := Lib.hid (BAD.out (Or.inr (Or.inr (Or.inl c3))))
        obtain ⟨c3, c4⟩ := c3
        subst c3
        clear gd GOOD BAD
        go_wp2_with fail
        refine hone.out.mono ?_
        rintro e w' ⟨rfl, rfl⟩
        go_wp2_with fail
        refine hgd.out.mono ?_
        rintro e w' ⟨rfl, rfl⟩
        go_wp2_with fail
        go_ret2
        exact Or.inr ⟨hneg.out, rfl, hB.out⟩
      by_cases c5 : N = 4 ∧ R < 65536
      · have hneg := Lib.hid (BAD.out (Or.inr (Or.inr (Or.inr c5))))
        obtain ⟨c5, c6⟩ := c5
        subst c5
        clear gd GOOD BAD
        go_wp2_with fail
        refine hone.out.mono ?_
        rintro e w' ⟨rfl, rfl⟩
        go_wp2_with fail
        refine hgd.out.mono ?_
        rintro e w' ⟨rfl, rfl⟩
        go_wp2_with fail
        go_ret2
        exact Or.inr ⟨hneg.out, rfl, hB.out⟩
      have hok := GOOD.out (fun h => by rcases h with h | h | h | h; exact n0 h; exact h gd; exact c3 h; exact c5 h)
      obtain ⟨g, rfl, hst, hg⟩ := runesN_step s f pos hlt hf
      have hwd := decode_width s pos hlt
      obtain ⟨r, hr⟩ : ∃ r, (Utf8.decode s pos).1 = r := ⟨_, rfl⟩
      obtain ⟨wd, hwd2⟩ : ∃ wd, (Utf8.decode s pos).2 = wd := ⟨_, rfl⟩
      rw [hr, hwd2] at hok hst; rw [hwd2] at hg hwd
      obtain ⟨hRr, rfl, hne⟩ := hok
      have HRr := Lib.hid hRr
      have hlen : P.length < s.size := by
        have h1 := congrArg List.length hP.out
        rw [hst, List.length_append, List.length_cons] at h1
        have := runesS_le s
        omega
      have HST := Lib.hid hst; have NE := Lib.hid hne
      have hN : wd = 1 ∨ wd = 2 ∨ wd = 3 ∨ wd = 4 := by omega
      have c3' : wd = 3 → (2048 : Int) ≤ R := by omega
      have c5' : wd = 4 → (65536 : Int) ≤ R := by omega
      clear hst hr hwd2 hne hRr GOOD BAD gd n0 c3 c5 y1
      rcases hN with hN | hN | hN | hN
      · clear c3' c5'
        subst hN
        go_wp2_with fail
        refine hone.out.mono ?_
        rintro e w' ⟨rfl, rfl⟩
        go_wp2_with fail
        refine hgd.out.mono ?_
        rintro e w' ⟨rfl, rfl⟩
        go_wp2_with (at_builtin; refine wpList_append_any rfl (.tmp 41) (.tmp 43) 56 rfl w.heap.size 21 i0 (.int .i32 0) 1 4 Try.underlying56 hi hz0 hz1 hz2 rfl (by decide) _ P.length _ rfl (hO.out.alloc _) _ 1 1 _ rfl (some_none _) rfl (one_new _ _ _ _) (one_int _ _) (by unfold maxLen; omega) (by omega) (by have := hB.out.size; simp; omega) ?_; intro a3 c3 w3 hown3 hb3 hnil3)
        rw [HRr.out, ← runesV_snoc] at hown3
        have O3 := Lib.hid hown3
        have B3 := Lib.hid ((hB.out.alloc hB.out.size _).trans hb3)
        clear hown3 hb3 hnil3 hO hB
        go_roundw
        case rel => exact ⟨pos + _, g, P ++ [r], hg, by go_num, by omega, Lib.hid (by rw [hP.out, HST.out]; simp), Lib.hid (by intro x hx; rcases List.mem_append.1 hx with hx | hx; exact hG.out x hx; simp at hx; rw [hx]; exact NE.out), by rw [List.length_append]; exact O3, B3⟩
        case measure => simp [intOf]; omega
      · clear c3' c5'
        subst hN
        go_wp2_with fail
        refine hone.out.mono ?_
        rintro e w' ⟨rfl, rfl⟩
        go_wp2_with fail
        refine hgd.out.mono ?_
        rintro e w' ⟨rfl, rfl⟩
        go_wp2_with (at_builtin; refine wpList_append_any rfl (.tmp 41) (.tmp 43) 56 rfl w.heap.size 21 i0 (.int .i32 0) 1 4 Try.underlying56 hi hz0 hz1 hz2 rfl (by decide) _ P.length _ rfl (hO.out.alloc _) _ 1 1 _ rfl (some_none _) rfl (one_new _ _ _ _) (one_int _ _) (by unfold maxLen; omega) (by omega) (by have := hB.out.size; simp; omega) ?_; intro a3 c3 w3 hown3 hb3 hnil3)
        rw [HRr.out, ← runesV_snoc] at hown3
        have O3 := Lib.hid hown3
        have B3 := Lib.hid ((hB.out.alloc hB.out.size _).trans hb3)
        clear hown3 hb3 hnil3 hO hB
        go_roundw
        case rel => exact ⟨pos + _, g, P ++ [r], hg, by go_num, by omega, Lib.hid (by rw [hP.out, HST.out]; simp), Lib.hid (by intro x hx; rcases List.mem_append.1 hx with hx | hx; exact hG.out x hx; simp at hx; rw [hx]; exact NE.out), by rw [List.length_append]; exact O3, B3⟩
        case measure => simp [intOf]; omega
      · have c6 := c3' hN
        clear c3' c5'
        subst hN
        go_wp2_with fail
        refine hone.out.mono ?_
        rintro e w' ⟨rfl, rfl⟩
        go_wp2_with fail
        refine hgd.out.mono ?_
        rintro e w' ⟨rfl, rfl⟩
        go_wp2_with (at_builtin; refine wpList_append_any rfl (.tmp 41) (.tmp 43) 56 rfl w.heap.size 21 i0 (.int .i32 0) 1 4 Try.underlying56 hi hz0 hz1 hz2 rfl (by decide) _ P.length _ rfl (hO.out.alloc _) _ 1 1 _ rfl (some_none _) rfl (one_new _ _ _ _) (one_int _ _) (by unfold maxLen; omega) (by omega) (by have := hB.out.size; simp; omega) ?_; intro a3 c3 w3 hown3 hb3 hnil3)
        rw [HRr.out, ← runesV_snoc] at hown3
        have O3 := Lib.hid hown3
        have B3 := Lib.hid ((hB.out.alloc hB.out.size _).trans hb3)
        clear hown3 hb3 hnil3 hO hB
        go_roundw
        case rel => exact ⟨pos + _, g, P ++ [r], hg, by go_num, by omega, Lib.hid (by rw [hP.out, HST.out]; simp), Lib.hid (by intro x hx; rcases List.mem_append.1 hx with hx | hx; exact hG.out x hx; simp at hx; rw [hx]; exact NE.out), by rw [List.length_append]; exact O3, B3⟩
        case measure => simp [intOf]; omega
      · have c6 := c5' hN
        clear c3' c5'
        subst hN
        go_wp2_with fail
        refine hone.out.mono ?_
        rintro e w' ⟨rfl, rfl⟩
        go_wp2_with fail
        refine hgd.out.mono ?_
        rintro e w' ⟨rfl, rfl⟩
        go_wp2_with (at_builtin; refine wpList_append_any rfl (.tmp 41) (.tmp 43) 56 rfl w.heap.size 21 i0 (.int .i32 0) 1 4 Try.underlying56 hi hz0 hz1 hz2 rfl (by decide) _ P.length _ rfl (hO.out.alloc _) _ 1 1 _ rfl (some_none _) rfl (one_new _ _ _ _) (one_int _ _) (by unfold maxLen; omega) (by omega) (by have := hB.out.size; simp; omega) ?_; intro a3 c3 w3 hown3 hb3 hnil3)
        rw [HRr.out, ← runesV_snoc] at hown3
        have O3 := Lib.hid hown3
        have B3 := Lib.hid ((hB.out.alloc hB.out.size _).trans hb3)
        clear hown3 hb3 hnil3 hO hB
        go_roundw
        case rel => exact ⟨pos + _, g, P ++ [r], hg, by go_num, by omega, Lib.hid (by rw [hP.out, HST.out]; simp), Lib.hid (by intro x hx; rcases List.mem_append.1 hx with hx | hx; exact hG.out x hx; simp at hx; rw [hx]; exact NE.out), by rw [List.length_append]; exact O3, B3⟩
        case measure => simp [intOf]; omega
    · have he : runesS s = P := by rw [hP.out, runesN_end s f pos hlt, List.append_nil]
      have HE := Lib.hid he
      clear he
      obtain ⟨a4, c4, rfl⟩ : ∃ a4 c4, u4 = .slice a4 P.length c4 := by
        rcases hO.out.2 with ⟨h, h0⟩ | ⟨g', c', cur, h, _⟩
        · exact ⟨none, 0, by rw [h, h0]⟩
        · exact ⟨_, c', h⟩
      have hgood := lenS_good (s := s) (by rw [HE.out]; exact hG.out)
      have HG2 := Lib.hid hgood
      clear hgood
      go_wp2_with fail
      go_ret2
      exact Or.inl ⟨by rw [HG2.out]; omega, a4, c4, by rw [HE.out]; rfl, by rw [HE.out]; exact hO.out, hB.out⟩
theorem holdsI_own {w : World} {B : Nat} {a : Option Addr} {c : Nat} {P : List Nat} (h : w.ownsRow B 21 1 (.slice a P.length c) P.length (runesV (intsN P))) : HoldsI .i32 w a P.length (intsN P) := by
  have hv := owns_holds h
  refine ⟨intsN_len P, fun h0 => ?_⟩
  obtain ⟨b, o, ha, hc⟩ := hv.2 h0
  exact ⟨b, o, ha, fun i hi => by rw [hc i hi, runesV, getD_map_int .i32 _ i (by rw [intsN_len]; exact hi)]⟩
theorem r1runes_any (s : ByteArray) (w : World) (hs : s.size ≤ 1048576) :
    Calls Try.prog 57 #[.string s] w (RunesP s w) := by
  refine (r1runesq_any s w hs).mono ?_
  rintro e w' (⟨h1, a, c, rfl, h2, h3⟩ | h)
  · exact Or.inl ⟨h1, a, c, rfl, holdsI_own h2, (owns_none h2).1, h3⟩
  · exact Or.inr h
end Go.Proofs.Ytmmliepkcgdnlaa
/- contract of the document's Len -/
namespace Go.Proofs.Ytmmliepkcgdnlaa
open Go.RowKit
set_option linter.unusedVariables false
set_option maxRecDepth 20000
set_option maxHeartbeats 800000 in
theorem rlen_any (s : ByteArray) (w : World) (hs : s.size ≤ 1048576) :
    Calls Try.prog 66 #[.string s] w fun e w' => e = .returned (.int .i64 (lenS s)) ∧ Below w.heap.size w w' := by
  have hr := Lib.hid (r1runes_any s w hs)
  by_cases hg : 0 ≤ lenS s
  · have hL := (lenS_pos hg).2
    have HL := Lib.hid hL; have HG := Lib.hid hg
    clear hg hL
    obtain ⟨n, hn⟩ : ∃ n, (runesS s).length = n := ⟨_, rfl⟩
    have hle := runesS_le s
    unfold RunesP at hr
    rw [hn] at hr hle
    rw [hn] at HL
    clear hn
    go_enter Try.func66, Try.ntmps66
    go_wp2_with fail
    refine hr.out.mono ?_
    rintro e w1 (⟨h1, a, c, rfl, h2, h3, h4⟩ | ⟨h1, _⟩)
    rotate_left
    · exact absurd HG.out (by omega)
    have H4 := Lib.hid h4
    clear h1 h2 h3 h4
    go_wp2_with fail
    go_ret
    exact ⟨ret_int HL.out.symm, H4.out⟩
  · have hb : lenS s = -1 := by have := (lenS_bd s).1; omega
    have HB := Lib.hid hb; have HG := Lib.hid hg
    clear hg hb
    go_enter Try.func66, Try.ntmps66
    go_wp2_with fail
    refine hr.out.mono ?_
    rintro e w1 (⟨h1, _⟩ | ⟨h1, rfl, h2⟩)
    · exact absurd h1 (by have := HG.out; omega)
    clear h1
    go_wp2_with fail
    go_ret
    exact ⟨ret_int HB.out.symm, h2⟩
end Go.Proofs.Ytmmliepkcgdnlaa
/- contract of the document's Word -/
namespace Go.Proofs.Ytmmliepkcgdnlaa
open Go.RowKit
set_option linter.unusedVariables false
set_option maxRecDepth 20000
theorem rword_any (s : ByteArray) (w : World) (hs : s.size ≤ 1048576) :
    Calls Try.prog 55 #[.string s] w fun e w' => e = .returned (.bool (decide (1 ≤ lenS s ∧ lenS s ≤ 12))) ∧ Below w.heap.size w w' := by
  have h1 := Lib.hid (fun w => rlen_any s w hs)
  obtain ⟨n, hn⟩ : ∃ n, lenS s = n := ⟨_, rfl⟩
  rw [hn]
  simp only [hn] at h1
  clear hn
  by_cases h : 1 ≤ n
  · rw [show decide (1 ≤ n ∧ n ≤ 12) = decide (n ≤ 12) by simp [h]]
    go_enter Try.func55, Try.ntmps55
    go_wp2_with fail
    refine (h1.out _).mono ?_
    rintro e w1 ⟨rfl, hb⟩
    go_wp2_with fail
    refine (h1.out _).mono ?_
    rintro e w2 ⟨rfl, hb2⟩
    go_wp2_with fail
    go_ret
    exact ⟨rfl, hb.trans (hb2.mono hb.size)⟩
  · rw [show decide (1 ≤ n ∧ n ≤ 12) = false by simp [h]]
    go_enter Try.func55, Try.ntmps55
    go_wp2_with fail
    refine (h1.out _).mono ?_
    rintro e w1 ⟨rfl, hb⟩
    go_wp2_with fail
    go_ret
    exact ⟨rfl, hb⟩
end Go.Proofs.Ytmmliepkcgdnlaa
/- contract of the document's Good (lists) -/
namespace Go.Proofs.Ytmmliepkcgdnlaa
open Go.RowKit
set_option linter.unusedVariables false
set_option maxRecDepth 20000
theorem rword_bool {w : World} (s : Tx) (b : Bool) (hs : s.size ≤ 1048576) (hb : decide (wordP s) = b) :
    Calls Try.prog 55 #[.string s] w fun e w' => e = .returned (.bool b) ∧ Below w.heap.size w w' := by subst hb; exact rword_any s w hs
set_option maxHeartbeats 1600000 in
theorem rgood_any (a : Option Addr) (n cap : Nat) (ts : List Tx) (w : World) (hh : HoldsT w a n ts) (hn : n ≤ 9223372036854775807) (hsz : ∀ t ∈ ts, t.size ≤ 1048576) :
    Calls Try.prog 41 #[.slice a n cap] w fun e w' => e = .returned (.int .i64 (goodV ts)) ∧ Below w.heap.size w w' := by
  have hl := hh.len
  by_cases h60 : n ≤ 60
  case neg =>
    rw [goodV_long (by omega)]
    go_enter Try.func41, Try.ntmps41
    go_wp2_with fail
    go_ret
    exact ⟨rfl, Below.refl _ _⟩
  go_enter Try.func41, Try.ntmps41
  go_wp2_with fail
  go_loopw [3] (fun iv wr => ∃ j : Nat, j ≤ n ∧ iv = .int .i64 j ∧ Hid (∀ t ∈ ts.take j, wordP t) ∧ Hid (Below w.heap.size w wr)) (fun iv _ => n - (intOf iv).toNat)
  case atStart => exact ⟨0, by omega, rfl, Lib.hid (by simp), Lib.hid (Below.refl _ _)⟩
  case round =>
    obtain ⟨j, hj, rfl, hS, hB⟩ := hrel
    by_cases hlt : j < n
    · obtain ⟨b, o, rfl, hc⟩ := (hh.below hB.out).at (by omega)
      have e1 := hc j hlt
      have hmem := getD_memT ts j (by omega)
      have htk := take_succ_getD ts ByteArray.empty j (by omega)
      obtain ⟨x, hx⟩ : ∃ x, ts.getD j ByteArray.empty = x := ⟨_, rfl⟩
      rw [hx] at e1 hmem htk
      have HX := Lib.hid (hsz x hmem)
      have HM := Lib.hid hmem; have HT := Lib.hid htk
      clear hx hmem htk hc
      by_cases hw : wordP x
      · have hb := decide_eq_true hw
        have HW := Lib.hid hw; have HD := Lib.hid hb
        clear hw hb
        go_wp2_with fail
        refine (rword_bool x true HX.out HD.out).mono ?_
        rintro e w2 ⟨rfl, hb2⟩
        go_wp2_with fail
        go_roundw
        case rel => exact ⟨j + 1, by omega, by go_num, Lib.hid (by rw [HT.out]; intro z hz; rcases List.mem_append.1 hz with hz | hz; exact hS.out z hz; simp at hz; rw [hz]; exact HW.out), Lib.hid (hB.out.trans (hb2.mono hB.out.size))⟩
        case measure => simp [intOf]; omega
      · have hb := decide_eq_false hw
        have hg := goodV_word (by omega) x HM.out hw
        have HD := Lib.hid hb; have HG := Lib.hid hg
        clear hw hb hg
        go_wp2_with fail
        refine (rword_bool x false HX.out HD.out).mono ?_
        rintro e w2 ⟨rfl, hb2⟩
        go_wp2_with fail
        go_ret
        exact ⟨ret_int HG.out.symm, hB.out.trans (hb2.mono hB.out.size)⟩
    · have hjn : ts.take j = ts := List.take_of_length_le (by omega)
      have hwd := hS.out
      rw [hjn] at hwd
      have HW := Lib.hid hwd
      have hB1 := hB
      clear hjn hwd hS hB
      go_wp2_with fail
      go_loopw [4] (fun iv wr2 => ∃ i : Nat, 1 ≤ i ∧ i ≤ n + 1 ∧ iv = .int .i64 i ∧ Hid (∀ k, k + 1 < i → k + 1 < n → cmpS (ts.getD k ByteArray.empty) (ts.getD (k + 1) ByteArray.empty) < 0) ∧ Hid (Below w.heap.size w wr2)) (fun iv _ => n + 1 - (intOf iv).toNat)
      case atStart => exact ⟨1, by omega, by omega, rfl, Lib.hid (fun k h1 => by omega), hB1⟩
      case round =>
        obtain ⟨i, hi1, hi2, rfl, hS, hB⟩ := hrel
        by_cases hlt2 : i < n
        · obtain ⟨b, o, rfl, hc⟩ := (hh.below hB.out).at (by omega)
          have e1 := hc i hlt2
          have e2 := hc (i - 1) (by omega)
          have hci := hS.out
          obtain ⟨q, rfl⟩ : ∃ q, i = q + 1 := ⟨i - 1, by omega⟩
          simp only [Nat.add_sub_cancel] at e2
          obtain ⟨x, hx⟩ : ∃ x, ts.getD q ByteArray.empty = x := ⟨_, rfl⟩
          obtain ⟨y, hy⟩ : ∃ y, ts.getD (q + 1) ByteArray.empty = y := ⟨_, rfl⟩
          rw [hx] at e2; rw [hy] at e1
          have HX := Lib.hid hx; have HY := Lib.hid hy
          clear hx hy hc hci
          have hsx := hsz x (by rw [← HX.out]; exact getD_memT ts q (by omega))
          have hsy := hsz y (by rw [← HY.out]; exact getD_memT ts (q + 1) (by omega))
          have hcmp := Lib.hid (fun w => rcompare_quiet x y w hsx hsy)
          have hbd := cmpS_bd x y
          obtain ⟨v, hv⟩ : ∃ v, cmpS x y = v := ⟨_, rfl⟩
          rw [hv] at hbd
          simp only [hv] at hcmp
          have HV := Lib.hid hv
          clear hv
          have hr : IntKind.i64.wrap (((q + 1 : Nat) : Int) - 1) = (q : Int) := by rw [IntWalk.i64_in _ (by omega)]; omega
          have hr2 : ((q + 1 : Nat) : Int) - 1 = (q : Int) := by omega
          have g1 : (q : Int) < (n : Int) := by omega
          have g2 : ((q + 1 : Nat) : Int) < (n : Int) := by omega
          by_cases hvn : v < 0
          · go_upto_region 11 with fail
            go_quiet ((go_at_call 49; exact Calls.quiet_of (hcmp.out _)))
            go_wp2_with fail
            go_roundw
            case rel =>
              refine ⟨q + 1 + 1, by omega, by omega, by go_num, Lib.hid (fun k h1 h2 => ?_), Lib.hid (hB.out.trans ((below_drewN _ _).mono hB.out.size))⟩
              by_cases hk : k = q
              · subst hk; rw [HX.out, HY.out, HV.out]; exact hvn
              · exact hS.out k (by omega) h2
            case measure => simp [intOf]; omega
          · have hg := goodV_sort (by omega) HW.out (fun hs => hvn (by have := (adj_iff ts).1 hs q (by omega); rw [HX.out, HY.out, HV.out] at this; exact this))
            have HG := Lib.hid hg
            clear hg
            go_upto_region 11 with fail
            go_quiet ((go_at_call 49; exact Calls.quiet_of (hcmp.out _)))
            go_wp2_with fail
            go_ret
            exact ⟨ret_int HG.out.symm, hB.out.trans ((below_drewN _ _).mono hB.out.size)⟩
        · have hg := goodV_good (by omega) HW.out ((adj_iff ts).2 fun k hk => hS.out k (by omega) (by omega))
          have HG := Lib.hid hg
          clear hg
          go_wp2_with fail
          go_ret
          exact ⟨ret_int HG.out.symm, hB.out⟩
end Go.Proofs.Ytmmliepkcgdnlaa
/- contracts of the document's ways with lists of words -/
namespace Go.Proofs.Ytmmliepkcgdnlaa
open Go.RowKit
set_option linter.unusedVariables false
set_option maxRecDepth 20000
theorem putF_len (w : Tx) : ∀ (xs : List Tx) (b : Bool), (putF w b xs).length ≤ xs.length + 1
  | [], b => by cases b <;> simp [putF]
  | x :: xs, true => by rw [putF_true]; simp
  | x :: xs, false => by
    rw [putF, List.length_append, List.length_cons, List.length_cons]
    by_cases h : 0 < cmpS x w
    · rw [if_pos ⟨rfl, h⟩, decide_eq_true (by omega), Bool.or_true, putF_true]; simp; omega
    · rw [if_neg (fun k => h k.2)]
      have := putF_len w xs (false || decide (0 ≤ cmpS x w))
      simp at this ⊢; omega
theorem putS_len (xs : List Tx) (w : Tx) : (putS xs w).length ≤ xs.length + 1 := putF_len w xs false
theorem putF_step (t x : Tx) (r : List Tx) (b b' : Bool) (v : Int) (hv : cmpS x t = v) (h : ¬ (b = false ∧ 0 < v)) (hb : (b || decide (0 ≤ v)) = b') : putF t b (x :: r) = x :: putF t b' r := by
  subst hv hb; rw [putF, if_neg h]; rfl
theorem putF_first (t x : Tx) (r : List Tx) (v : Int) (hv : cmpS x t = v) (h : 0 < v) : putF t false (x :: r) = t :: x :: putF t true r := by
  subst hv; rw [putF, if_pos ⟨rfl, h⟩, decide_eq_true (by omega)]; rfl
/-- a list of texts that was answered -/
def RetH (w : World) (ys : List Tx) (e : Ending) (w' : World) : Prop := ∃ a c, e = .returned (.slice a ys.length c) ∧ HoldsT w' a ys.length ys ∧ (a = none → ys.length = 0 ∧ c = 0) ∧ Below w.heap.size w w'
end Go.Proofs.Ytmmliepkcgdnlaa
/- what one list has without another one: plain -/
namespace Go.Proofs.Ytmmliepkcgdnlaa
open Go.RowKit
set_option linter.unusedVariables false
set_option maxRecDepth 20000
theorem filter_snoc (p : Tx → Bool) (xs : List Tx) (x : Tx) : (xs ++ [x]).filter p = xs.filter p ++ (if p x then [x] else []) := by
  rw [List.filter_append]; by_cases h : p x <;> simp [h]
def lessOf (xs ys : List Tx) : List Tx := xs.filter fun t => !decide (t ∈ ys)
theorem lessOf_yes (ys xs : List Tx) (x : Tx) (h : x ∈ ys) : lessOf (xs ++ [x]) ys = lessOf xs ys := by
  unfold lessOf; rw [filter_snoc, if_neg (by simp [h])]; simp
theorem lessOf_no (ys xs : List Tx) (x : Tx) (h : ¬ x ∈ ys) : lessOf (xs ++ [x]) ys = lessOf xs ys ++ [x] := by
  unfold lessOf; rw [filter_snoc, if_pos (by simp [h])]
theorem lessOf_len (xs ys : List Tx) : (lessOf xs ys).length ≤ xs.length := List.length_filter_le _ _
end Go.Proofs.Ytmmliepkcgdnlaa
/- contracts of the document's Sorted, At, Merge, Without -/
namespace Go.Proofs.Ytmmliepkcgdnlaa
open Go.RowKit
set_option linter.unusedVariables false
set_option maxRecDepth 20000
theorem ret_holds {w w' : World} {a : Option Addr} {c : Nat} {ys zs : List Tx} (h : ys = zs) (hh : HoldsT w' a ys.length ys) (hnil : a = none → ys.length = 0 ∧ c = 0) (hb : Below w.heap.size w w') (v : Value) (hv : v = .slice a ys.length c) : RetH w zs (.returned v) w' := by
  subst h hv; exact ⟨a, c, rfl, hh, hnil, hb⟩
theorem canon_len (xs : List Tx) : (canonS xs).length ≤ xs.length := by
  have : ∀ (ys acc : List Tx), (ys.foldl putS acc).length ≤ acc.length + ys.length := by
    intro ys
    induction ys with
    | nil => intro acc; simp
    | cons y ys ih => intro acc; have h1 := ih (putS acc y); have h2 := putS_len acc y; simp at h1 ⊢; omega
  simpa [canonS] using this xs []
theorem canon_snoc (xs : List Tx) (x : Tx) : canonS (xs ++ [x]) = putS (canonS xs) x := by simp [canonS, List.foldl_append]
def wordsOf (ts : List Tx) : List Tx := ts.filter fun t => decide (wordP t)
theorem wordsOf_yes (xs : List Tx) (x : Tx) (h : wordP x) : wordsOf (xs ++ [x]) = wordsOf xs ++ [x] := by
  unfold wordsOf; rw [filter_snoc, if_pos (decide_eq_true h)]
theorem wordsOf_no (xs : List Tx) (x : Tx) (h : ¬ wordP x) : wordsOf (xs ++ [x]) = wordsOf xs := by
  unfold wordsOf; rw [filter_snoc, if_neg (by simp [h])]; simp
theorem wordsOf_len (xs : List Tx) : (wordsOf xs).length ≤ xs.length := List.length_filter_le _ _
theorem sz_canon {xs : List Tx} {m : Nat} (h : ∀ t ∈ xs, t.size ≤ m) : ∀ t ∈ canonS xs, t.size ≤ m := fun t ht => h t (mem_canon.1 ht)
theorem sz_words {xs : List Tx} {m : Nat} (h : ∀ t ∈ xs, t.size ≤ m) : ∀ t ∈ wordsOf xs, t.size ≤ m := fun t ht => h t (List.mem_filter.1 ht).1
theorem sz_take {xs : List Tx} {m : Nat} (h : ∀ t ∈ xs, t.size ≤ m) (j : Nat) : ∀ t ∈ xs.take j, t.size ≤ m := fun t ht => h t (List.mem_of_mem_take ht)
theorem atN_snoc (xs : List Tx) (x w : Tx) : atN (xs ++ [x]) w = atN xs w + (if cmpS x w < 0 then 1 else 0) := by
  unfold atN
  rw [List.countP_append]
  by_cases h : cmpS x w < 0 <;> simp [h]
theorem atN_found (xs : List Tx) (j : Nat) (h : j < xs.length) (hs : SortedS xs) : atN xs (xs.getD j ByteArray.empty) = atN (xs.take j) (xs.getD j ByteArray.empty) := by
  have h1 : xs = xs.take j ++ xs.drop j := (List.take_append_drop j xs).symm
  have h2 := drop_cons xs j h
  have hs2 : SortedS (xs.drop j) := List.Pairwise.drop hs
  obtain ⟨x, hx⟩ : ∃ x, xs.getD j ByteArray.empty = x := ⟨_, rfl⟩
  rw [hx] at h2 ⊢
  rw [h2] at hs2
  have h3 := (List.pairwise_cons.1 hs2).1
  conv => lhs; rw [h1, h2]
  unfold atN
  rw [List.countP_append]
  have h4 : (x :: xs.drop (j + 1)).countP (fun y => decide (cmpS y x < 0)) = 0 := by
    rw [List.countP_eq_zero]
    intro y hy
    rcases List.mem_cons.1 hy with e | e
    · rw [e]; simp [cmpS_irrefl]
    · have := cmpS_asymm (h3 y e); simp; omega
  omega
end Go.Proofs.Ytmmliepkcgdnlaa
/- contract of list.Without -/
namespace Go.Proofs.Ytmmliepkcgdnlaa
open Go.RowKit
set_option linter.unusedVariables false
set_option maxRecDepth 20000
end Go.Proofs.Ytmmliepkcgdnlaa
/- a list that was answered, as it reads -/
namespace Go.Proofs.Ytmmliepkcgdnlaa
open Go.RowKit
set_option linter.unusedVariables false
set_option maxRecDepth 20000
theorem RetO.holds {w w' : World} {ys : List Tx} {e : Ending} (h : RetO w ys e w') : RetH w ys e w' := by
  obtain ⟨a, c, rfl, h1, h2⟩ := h
  exact ⟨a, c, rfl, HoldsT.own h1, (owns_none h1).1, h2⟩
end Go.Proofs.Ytmmliepkcgdnlaa
/- the library's SortFunc, Compact, BinarySearchFunc at this seat -/
namespace Go.Proofs.Ytmmliepkcgdnlaa
open Go.Shelf Go.RowKit
def Try.sortT_ren : Go.Shelf.Ren := ⟨fun | 6 => 51 | 15 => 64 | 14 => 63 | 28 => 81 | 29 => 82 | 20 => 73 | 21 => 74 | 22 => 75 | 23 => 76 | 24 => 77 | 25 => 78 | 26 => 79 | 27 => 80 | 46 => 87 | 47 => 88 | 48 => 89 | 49 => 90 | 50 => 91 | 57 => 92 | n => n, fun | 22 => 22 | 24 => 9 | 25 => 77 | 3 => 3 | 39 => 81 | 0 => 0 | 53 => 114 | 55 => 116 | 4 => 4 | 46 => 108 | 45 => 107 | 50 => 44 | 5 => 5 | 9 => 9 | 66 => 122 | 70 => 126 | 76 => 128 | 77 => 129 | n => n, fun | n => n⟩
theorem Try.sortT : Go.Proofs.SlLaysF.n6 Try.prog Try.sortT_ren := {
  mixed := by kernel_rfl
  f6 := ⟨Try.f51.name, by decide, Try.func51.trans (congrArg some (by kernel_rfl))⟩
  f14 := ⟨Try.f63.name, by decide, Try.func63.trans (congrArg some (by kernel_rfl))⟩
  f15 := Try.func64.trans (congrArg some (by kernel_rfl))
  f20 := ⟨Try.f73.name, by decide, Try.func73.trans (congrArg some (by kernel_rfl))⟩
  f21 := ⟨Try.f74.name, by decide, Try.func74.trans (congrArg some (by kernel_rfl))⟩
  f22 := ⟨Try.f75.name, by decide, Try.func75.trans (congrArg some (by kernel_rfl))⟩
  f23 := ⟨Try.f76.name, by decide, Try.func76.trans (congrArg some (by kernel_rfl))⟩
  f24 := ⟨Try.f77.name, by decide, Try.func77.trans (congrArg some (by kernel_rfl))⟩
  f25 := ⟨Try.f78.name, by decide, Try.func78.trans (congrArg some (by kernel_rfl))⟩
  f26 := ⟨Try.f79.name, by decide, Try.func79.trans (congrArg some (by kernel_rfl))⟩
  f27 := ⟨Try.f80.name, by decide, Try.func80.trans (congrArg some (by kernel_rfl))⟩
  f28 := Try.func81.trans (congrArg some (by kernel_rfl))
  f29 := Try.func82.trans (congrArg some (by kernel_rfl))
  f46 := ⟨Try.f87.name, by decide, Try.func87.trans (congrArg some (by kernel_rfl))⟩
  f47 := Try.func88.trans (congrArg some (by kernel_rfl))
  f48 := Try.func89.trans (congrArg some (by kernel_rfl))
  f49 := ⟨Try.f90.name, by decide, Try.func90.trans (congrArg some (by kernel_rfl))⟩
  f50 := ⟨Try.f91.name, by decide, Try.func91.trans (congrArg some (by kernel_rfl))⟩
  f57 := ⟨Try.f92.name, by decide, Try.func92.trans (congrArg some (by kernel_rfl))⟩
  t0 := Try.underlying0
  a0 := Try.isAgg0
  z0 := Try.sizeOf0
  v0 := Try.zeroValue0
  t3 := Try.underlying3
  a3 := Try.isAgg3
  z3 := Try.sizeOf3
  v3 := Try.zeroValue3
  t4 := Try.underlying4
  a4 := Try.isAgg4
  z4 := Try.sizeOf4
  v4 := Try.zeroValue4
  t5 := Try.underlying5
  a5 := Try.isAgg5
  z5 := Try.sizeOf5
  v5 := Try.zeroValue5
  t9 := Try.underlying9
  a9 := Try.isAgg9
  z9 := Try.sizeOf9
  v9 := Try.zeroValue9
  t22 := Try.underlying22
  a22 := Try.isAgg22
  z22 := Try.sizeOf22
  v22 := Try.zeroValue22
  a24 := Try.isAgg9
  z24 := Try.sizeOf9
  t25 := Try.underlying77
  a25 := Try.isAgg77
  z25 := Try.sizeOf77
  v25 := Try.zeroValue77
  t39 := Try.underlying81
  a39 := Try.isAgg81
  z39 := Try.sizeOf81
  v39 := Try.zeroValue81
  t45 := Try.underlying107
  a45 := Try.isAgg107
  z45 := Try.sizeOf107
  v45 := Try.zeroValue107
  t46 := Try.underlying108
  a46 := Try.isAgg108
  z46 := Try.sizeOf108
  v46 := Try.zeroValue108
  t50 := Try.underlying44
  a50 := Try.isAgg44
  z50 := Try.sizeOf44
  v50 := Try.zeroValue44
  t53 := Try.underlying114
  a53 := Try.isAgg114
  z53 := Try.sizeOf114
  v53 := Try.zeroValue114
  t55 := Try.underlying116
  a55 := Try.isAgg116
  z55 := Try.sizeOf116
  v55 := Try.zeroValue116
  t66 := Try.underlying122
  a66 := Try.isAgg122
  z66 := Try.sizeOf122
  v66 := Try.zeroValue122
  t70 := Try.underlying126
  a70 := Try.isAgg126
  z70 := Try.sizeOf126
  v70 := Try.zeroValue126
  t76 := Try.underlying128
  a76 := Try.isAgg128
  z76 := Try.sizeOf128
  v76 := Try.zeroValue128
  t77 := Try.underlying129
  a77 := Try.isAgg129
  z77 := Try.sizeOf129
  v77 := Try.zeroValue129 }
def Try.compactT_ren : Go.Shelf.Ren := ⟨fun | 194 => 52 | n => n, fun | 31 => 22 | 9 => 9 | 3 => 3 | 4 => 4 | 0 => 0 | n => n, fun | n => n⟩
theorem Try.compactT : Go.Proofs.Lays.n194 Try.prog Try.compactT_ren := {
  mixed := by kernel_rfl
  f194 := Try.func52.trans (congrArg some (by kernel_rfl))
  t0 := Try.underlying0
  a0 := Try.isAgg0
  z0 := Try.sizeOf0
  v0 := Try.zeroValue0
  t3 := Try.underlying3
  a3 := Try.isAgg3
  z3 := Try.sizeOf3
  v3 := Try.zeroValue3
  t4 := Try.underlying4
  a4 := Try.isAgg4
  z4 := Try.sizeOf4
  v4 := Try.zeroValue4
  t9 := Try.underlying9
  a9 := Try.isAgg9
  z9 := Try.sizeOf9
  v9 := Try.zeroValue9
  t31 := Try.underlying22
  a31 := Try.isAgg22
  z31 := Try.sizeOf22
  v31 := Try.zeroValue22 }
end Go.Proofs.Ytmmliepkcgdnlaa
/- contract of list.Sorted -/
namespace Go.Proofs.Ytmmliepkcgdnlaa
open Go.RowKit Go.Shelf Go.Sort Go.Lib
set_option linter.unusedVariables false
set_option maxRecDepth 20000
def bsT (t : Tx) : List UInt8 := t.data.toList
def unT (l : List UInt8) : Tx := ⟨l.toArray⟩
theorem un_bs (t : Tx) : unT (bsT t) = t := by simp [unT, bsT]
theorem bs_un (l : List UInt8) : bsT (unT l) = l := by simp [unT, bsT]
theorem un_inj {x y : List UInt8} (h : unT x = unT y) : x = y := by rw [← bs_un x, h, bs_un]
def cfT (x y : List UInt8) : Int := cmpS (unT x) (unT y)
theorem swoT : SWO (ltOf cfT) := {
  irrefl x := by unfold ltOf cfT; rw [decide_eq_false_iff_not]; exact cmpS_irrefl _
  trans x y z h1 h2 := by unfold ltOf cfT at *; rw [decide_eq_true_iff] at *; exact cmpS_trans h1 h2
  ntrans x y z h1 h2 := by
    unfold ltOf cfT at *
    rw [decide_eq_false_iff_not] at *
    intro h
    rcases cmpS_bd (unT x) (unT y) with e | e | e
    · exact h1 (by omega)
    · rw [cmpS_zero.1 e] at h; exact h2 h
    · have h3 : cmpS (unT y) (unT x) < 0 := by rw [cmpS_swap (unT x)]; omega
      exact h2 (cmpS_trans h3 h) }
theorem totT (x y : List UInt8) (h1 : ltOf cfT x y = false) (h2 : ltOf cfT y x = false) : x = y := by
  unfold ltOf cfT at *
  rw [decide_eq_false_iff_not] at *
  have := cmpS_swap (unT x) (unT y)
  exact un_inj (cmpS_zero.1 (by omega))
theorem strs_enc (ts : List Tx) : strsV ts = (ts.map bsT).map encStr := by
  rw [List.map_map]; unfold strsV
  apply List.map_congr_left
  intro t _
  simp [bsT]
theorem enc_strs (zs : List (List UInt8)) : zs.map encStr = strsV (zs.map unT) := by
  unfold strsV; rw [List.map_map]; rfl
/-! what Compact leaves of a list in order -/
theorem mem_compactUpTo (d : Array (List UInt8)) (m : Nat) (z : List UInt8) : z ∈ compactUpTo d m ↔ ∃ j, j < m ∧ d[j]! = z := by
  induction m with
  | zero => simp [compactUpTo]
  | succ m ih =>
    rw [compactUpTo_succ, List.mem_append, ih]
    by_cases hk : keeps d m
    · rw [if_pos hk]
      constructor
      · rintro (⟨j, h, e⟩ | h)
        · exact ⟨j, by omega, e⟩
        · simp at h; exact ⟨m, by omega, h.symm⟩
      · rintro ⟨j, h, e⟩
        by_cases h2 : j = m
        · subst h2; exact Or.inr (by simp [e])
        · exact Or.inl ⟨j, by omega, e⟩
    · rw [if_neg hk]
      have hm : ¬ (m = 0 ∨ d[m]! ≠ d[m - 1]!) := by simpa [keeps] using hk
      have h1 : m ≠ 0 := fun h => hm (Or.inl h)
      have h2 : d[m]! = d[m - 1]! := Classical.byContradiction fun h => hm (Or.inr h)
      constructor
      · rintro (⟨j, h, e⟩ | h)
        · exact ⟨j, by omega, e⟩
        · simp at h
      · rintro ⟨j, h, e⟩
        by_cases h3 : j = m
        · subst h3; exact Or.inl ⟨j - 1, by omega, by rw [← h2, e]⟩
        · exact Or.inl ⟨j, by omega, e⟩
theorem sorted_compactUpTo (d : Array (List UInt8)) (hw : ∀ i j, i < j → j < d.size → ¬ cfT d[j]! d[i]! < 0) (m : Nat) (hm : m ≤ d.size) : (compactUpTo d m).Pairwise fun x y => cfT x y < 0 := by
  induction m with
  | zero => simp [compactUpTo]
  | succ m ih =>
    rw [compactUpTo_succ]
    by_cases hk : keeps d m
    · rw [if_pos hk, List.pairwise_append]
      refine ⟨ih (by omega), by simp, fun z hz y hy => ?_⟩
      simp at hy
      subst hy
      obtain ⟨j, hj, rfl⟩ := (mem_compactUpTo d m z).1 hz
      have hm2 : m = 0 ∨ d[m]! ≠ d[m - 1]! := by simpa [keeps] using hk
      rcases hm2 with h | h
      · omega
      · have h1 := hw (m - 1) m (by omega) (by omega)
        have h2 : cfT d[m - 1]! d[m]! < 0 := by
          unfold cfT at *
          have := cmpS_swap (unT d[m]!) (unT d[m - 1]!)
          rcases cmpS_bd (unT d[m]!) (unT d[m - 1]!) with e | e | e
          · omega
          · exact absurd (un_inj (cmpS_zero.1 e)) h
          · omega
        by_cases h3 : j = m - 1
        · subst h3; exact h2
        · have h4 := hw j (m - 1) (by omega) (by omega)
          unfold cfT at *
          have := cmpS_swap (unT d[m - 1]!) (unT d[j]!)
          rcases cmpS_bd (unT d[m - 1]!) (unT d[j]!) with e | e | e
          · omega
          · rw [← cmpS_zero.1 e]; exact h2
          · exact cmpS_trans (by omega) h2
    · rw [if_neg hk]; simpa using ih (by omega)
theorem compact_canon (ts : List Tx) : ((Lib.compact ((ts.map bsT).mergeSort fun x y => !(ltOf cfT) y x)).map unT) = canonS ts := by
  obtain ⟨zs, hz⟩ : ∃ zs, ((ts.map bsT).mergeSort fun x y => !(ltOf cfT) y x) = zs := ⟨_, rfl⟩
  have hp : zs.Perm (ts.map bsT) := by rw [← hz]; exact List.mergeSort_perm _ _
  have hs : zs.Pairwise fun x y => (!(ltOf cfT) y x) = true := by
    rw [← hz]
    refine List.pairwise_mergeSort (fun a b c h1 h2 => ?_) (fun a b => ?_) _
    · simp only [Bool.not_eq_true'] at *; exact swoT.ntrans _ _ _ h2 h1
    · cases h : ltOf cfT b a with
      | false => simp
      | true =>
        have := (swoT.irrefl a)
        cases h2 : ltOf cfT a b with
        | false => simp
        | true => rw [swoT.trans _ _ _ h2 h] at this; cases this
  rw [hz]
  have hw : ∀ i j, i < j → j < zs.toArray.size → ¬ cfT zs.toArray[j]! zs.toArray[i]! < 0 := by
    intro i j hij hj
    have hj' : j < zs.length := by simpa using hj
    have h1 := List.pairwise_iff_getElem.1 hs i j (by omega) hj' hij
    rw [getElem!_pos zs.toArray j hj, getElem!_pos zs.toArray i (by simp; omega)]
    simpa [ltOf] using h1
  refine canon_of ?_ fun z => ?_
  · have := sorted_compactUpTo zs.toArray hw zs.length (by simp)
    exact List.pairwise_map.2 this
  · rw [List.mem_map]
    constructor
    · rintro ⟨x, hx, rfl⟩
      obtain ⟨j, hj, rfl⟩ := (mem_compactUpTo _ _ _).1 hx
      have h1 : zs.toArray[j]! ∈ zs := by rw [getElem!_pos zs.toArray j (by simpa using hj)]; simp
      obtain ⟨t, ht, e⟩ := List.mem_map.1 (hp.mem_iff.1 h1)
      rw [← e, un_bs]; exact ht
    · intro hz2
      have h1 : bsT z ∈ zs := hp.mem_iff.2 (List.mem_map_of_mem hz2)
      obtain ⟨j, hj, e⟩ := List.getElem_of_mem h1
      exact ⟨bsT z, (mem_compactUpTo _ _ _).2 ⟨j, hj, by rw [getElem!_pos zs.toArray j (by simpa using hj)]; simpa using e⟩, un_bs z⟩
theorem cmp_lays (blk off size : Nat) (w : World) : CmpLays1 Try.prog 46 #[] encStr cfT blk off size w := by
  intro m os dk hs x y
  refine (compare_any (unT x) (unT y) _).mono ?_
  rintro e w' ⟨rfl, rfl⟩
  exact ⟨rfl, 0, #[], by rw [grow_empty]; rfl⟩
set_option maxHeartbeats 1000000 in
theorem sort_some (g n cap B : Nat) (ts : List Tx) (w : World) (hown : w.ownsRow B 9 1 (.slice (some ⟨g, 0, none⟩) n cap) n (strsV ts)) (hn : n ≤ 1048576) :
    Calls Try.prog 51 #[.slice (some ⟨g, 0, none⟩) n cap, .func (.func 46) #[] #[]] w fun e w' => e = .returned (.tuple #[]) ∧ w'.ownsRow B 9 1 (.slice (some ⟨g, 0, none⟩) n cap) n (((ts.map bsT).mergeSort fun x y => !(ltOf cfT) y x).map encStr) ∧ (∀ b w0, B = b → Below b w0 w → Below b w0 w') := by
  have eg : ∀ args w, (callFunc 46 args).run Try.prog w = .ok (.enter 46 args) w := enters_of Try.func46 (by kernel_rfl) rfl
  rw [strs_enc] at hown
  rcases hown.2 with ⟨h0, _⟩ | ⟨g', cap', cur, hv, hbase, hb, h1, h2, h3, h4⟩
  · cases h0
  cases hv
  have hl : (ts.map bsT).length = n := by simpa using hown.1
  subst hl
  rw [Nat.mul_one] at h4
  have hH := holds_of_block hb h4
  have hS := Any.slices_SortFunc_total Try.sortT encStr (fun _ => rfl) cfT swoT 46 #[] g 0 cap (ts.map bsT).toArray w eg (cmp_lays g 0 _ w) hH (Array.getElem?_eq_some_iff.1 hb).1 (by simp at hn ⊢; omega) totT
  change Calls Try.prog 51 _ _ _ at hS
  simp only [List.size_toArray] at hS
  refine hS.mono ?_
  rintro e w' ⟨rfl, q, os, rfl⟩
  have hl2 : ((ts.map bsT).mergeSort fun x y => !(ltOf cfT) y x).length = (ts.map bsT).length := List.length_mergeSort _
  refine ⟨rfl, ownsRow_sorted (n := q) (os := os) hl2 hbase hb h1 h2 h3, ?_⟩
  rintro b w0 rfl hbel
  exact hbel.grown (grownBy_sorted _) (by have := (Array.getElem?_eq_some_iff.1 hb).1; omega) fun j hj => by cases hj; exact hbase
set_option maxHeartbeats 1000000 in
theorem compact_some (g n cap B : Nat) (zs : List (List UInt8)) (w : World) (hown : w.ownsRow B 9 1 (.slice (some ⟨g, 0, none⟩) n cap) n (zs.map encStr)) (hn : n ≤ 1048576) :
    Calls Try.prog 52 #[.slice (some ⟨g, 0, none⟩) n cap] w fun e w' => e = .returned (.slice (some ⟨g, 0, none⟩) (Lib.compact zs).length cap) ∧ w'.ownsRow B 9 1 (.slice (some ⟨g, 0, none⟩) (Lib.compact zs).length cap) (Lib.compact zs).length (strsV ((Lib.compact zs).map unT)) ∧ (∀ b w0, B = b → Below b w0 w → Below b w0 w') := by
  rcases hown.2 with ⟨h0, _⟩ | ⟨g', cap', cur, hv, hbase, hb, h1, h2, h3, h4⟩
  · cases h0
  cases hv
  have hl : zs.length = n := by simpa using hown.1
  subst hl
  rw [Nat.mul_one] at h4
  have hH := holds_of_block hb h4
  have hle := Lib.compact_length_le zs
  have hS := Any.slices_Compact_string Try.compactT g 0 cap zs w hH (by omega) h1
  change Calls Try.prog 52 _ _ _ at hS
  refine hS.mono ?_
  rintro e w' ⟨rfl, q, rfl⟩
  have hc := Lib.ownsRow_putRow (q := q) (k := (Lib.compact zs).length) (ys := Lib.compact zs ++ List.replicate (zs.length - (Lib.compact zs).length) []) hown (by simp; omega) (by omega)
  rw [List.take_left, enc_strs] at hc
  refine ⟨rfl, hc, ?_⟩
  rintro b w0 rfl hbel
  exact Lib.below_putRow hbel hbase
theorem sort_none (w : World) : Calls Try.prog 51 #[.slice none 0 0, .func (.func 46) #[] #[]] w fun e w' => e = .returned (.tuple #[]) ∧ w = w' := by
  have hS := AnyF.slices_SortFunc_none (P := Try.prog) (ρ := Try.sortT_ren) { Try.sortT with } none 0 (.func (.func 46) #[] #[]) w
  change Calls Try.prog 51 _ _ _ at hS
  refine hS.mono ?_
  rintro e w' ⟨rfl, rfl⟩
  exact ⟨rfl, rfl⟩
theorem compact_none (w : World) : Calls Try.prog 52 #[.slice none 0 0] w fun e w' => e = .returned (.slice none 0 0) ∧ w = w' := by
  have hS := Any.slices_Compact_string_empty Try.compactT none 0 w
  change Calls Try.prog 52 _ _ _ at hS
  refine hS.mono ?_
  rintro e w' ⟨rfl, rfl⟩
  exact ⟨rfl, rfl⟩
end Go.Proofs.Ytmmliepkcgdnlaa
/- contract of list.Sorted: the walk -/
namespace Go.Proofs.Ytmmliepkcgdnlaa
open Go.RowKit
set_option linter.unusedVariables false
set_option maxRecDepth 20000
set_option maxHeartbeats 1600000 in
theorem sorted_any (a : Option Addr) (n cap : Nat) (ts : List Tx) (w : World) (hh : HoldsT w a n ts) (hcap : n ≤ cap) (hn : n ≤ 1000) (hsz : ∀ t ∈ ts, t.size ≤ 9223372036854775807) :
    Calls Try.prog 37 #[.slice a n cap] w (RetO w (canonS (wordsOf ts))) := by
  obtain ⟨i0, hi, hz0, hz1, hz2⟩ := info_parts str_info
  have hl := hh.len
  have hmin : min (n : Int) 1000 = (n : Int) := by omega
  go_enter Try.func37, Try.ntmps37
  go_wp2_with fail
  go_loopw [3, 13] (fun ov iv wr => ∃ (j : Nat) (P : List Tx), j ≤ n ∧ P.length ≤ j ∧ iv = .int .i64 j ∧ Hid (P = wordsOf (ts.take j)) ∧ Hid (wr.ownsRow w.heap.size 9 1 ov P.length (strsV P)) ∧ Hid (Below w.heap.size w wr)) (fun _ iv _ => n - (intOf iv).toNat)
  case atStart => exact ⟨0, [], by omega, by simp, rfl, Lib.hid rfl, Lib.hid (World.ownsRow_nil _ _ _ _), Lib.hid (Below.refl _ _)⟩
  case round =>
    obtain ⟨j, P, hj, hPl, rfl, hP, hO, hB⟩ := hrel
    by_cases hlt : j < n
    · have hcell := hh.at (by omega)
      obtain ⟨bb, o, rfl, hc'⟩ := hcell
      have e0 := hc' j hlt
      have HC := Lib.hid (fun (w3 : World) (hb : Below w.heap.size w w3) => show w3.cell? ⟨bb, o + j, none⟩ = some (.string (ts.getD j ByteArray.empty)) from (hb.cell (p := ⟨bb, o + j, none⟩) (lt_of_cell e0)).trans e0)
      have hmem := getD_memT ts j (by omega)
      have htk := take_succ_getD ts ByteArray.empty j (by omega)
      obtain ⟨x, hx⟩ : ∃ x, ts.getD j ByteArray.empty = x := ⟨_, rfl⟩
      rw [hx] at hmem htk
      simp only [hx] at HC
      have HX := Lib.hid (hsz x hmem); have HT := Lib.hid htk
      clear hx hmem htk hc' e0
      have e1 := HC.out _ hB.out
      by_cases hw : wordP x
      · have HD := Lib.hid (decide_eq_true hw)
        have hws := wordsOf_yes (ts.take j) x hw
        rw [← HT.out, ← hP.out] at hws
        have HW := Lib.hid hws
        clear hws hw
        go_wp2_with fail
        refine (word_bool x true HX.out HD.out).mono ?_
        rintro e w2 ⟨rfl, hb2⟩
        have O2 := Lib.hid (owns_below hO.out hb2)
        have B2 := Lib.hid (hB.out.trans (hb2.mono hB.out.size))
        clear hb2 e1 hO hB
        go_wp2_with (at_builtin; refine wpList_append_any rfl (.tmp 19) (.tmp 21) 22 rfl w.heap.size 9 i0 (.string ⟨#[]⟩) 1 16 Try.underlying22 hi hz0 hz1 hz2 rfl (by decide) _ P.length _ rfl (O2.out.alloc _) _ 1 1 _ rfl (some_none _) rfl (one_new _ _ _ _) (one_str _) (by unfold maxLen; omega) (by omega) (by have := B2.out.size; simp; omega) ?_; intro a3 c3 w3 hown3 hb3 hnil3)
        rw [← strsV_snoc] at hown3
        have O3 := Lib.hid hown3
        have B3 := Lib.hid ((B2.out.alloc B2.out.size _).trans hb3)
        clear hown3 hb3 hnil3
        go_roundw
        case rel => exact ⟨j + 1, P ++ [x], by omega, by simp; omega, by go_num, Lib.hid HW.out.symm, Lib.hid (by have := O3.out; simpa using this), B3⟩
        case measure => simp [intOf]; omega
      · have HD := Lib.hid (decide_eq_false hw)
        have hws := wordsOf_no (ts.take j) x hw
        rw [← HT.out, ← hP.out] at hws
        have HW := Lib.hid hws
        clear hws hw
        go_wp2_with fail
        refine (word_bool x false HX.out HD.out).mono ?_
        rintro e w2 ⟨rfl, hb2⟩
        have O2 := Lib.hid (owns_below hO.out hb2)
        have B2 := Lib.hid (hB.out.trans (hb2.mono hB.out.size))
        clear hb2 e1 hO hB
        go_wp2_with fail
        go_roundw
        case rel => exact ⟨j + 1, P, by omega, by omega, by go_num, Lib.hid HW.out.symm, O2, B2⟩
        case measure => simp [intOf]; omega
    · have hjn : ts.take j = ts := List.take_of_length_le (by omega)
      have hP2 := hP.out
      rw [hjn] at hP2
      have hC := compact_canon P
      rw [hP2] at hC
      rw [← hP2] at hC
      have HP := Lib.hid hP2
      have HCC := Lib.hid (compact_canon P)
      have hPn : P.length ≤ 1048576 := by omega
      clear hP hP2 hjn hC
      rcases hO.out.2 with ⟨h, h0⟩ | ⟨g', c', cur, h, _⟩
      · subst h
        obtain rfl : P = [] := List.eq_nil_of_length_eq_zero h0
        go_wp2_with fail
        refine (sort_none _).mono ?_
        rintro e w2 ⟨rfl, rfl⟩
        go_wp2_with fail
        refine (compact_none _).mono ?_
        rintro e w3 ⟨rfl, rfl⟩
        go_wp2_with fail
        go_ret
        exact ret_own (by rw [← HP.out]) rfl (World.ownsRow_nil _ _ _ _) hB.out _ rfl
      · subst h
        have hS := Lib.hid (sort_some g' P.length c' w.heap.size P wr hO.out hPn)
        obtain ⟨zs, hzs⟩ : ∃ zs, ((P.map bsT).mergeSort fun x y => !(Go.Proofs.ltOf cfT) y x) = zs := ⟨_, rfl⟩
        rw [hzs] at hS HCC
        clear hzs
        go_wp2_with fail
        refine hS.out.mono ?_
        rintro e w2 ⟨rfl, o2, b2⟩
        have B2 := Lib.hid (b2 _ _ rfl hB.out)
        have hK := Lib.hid (compact_some g' P.length c' w.heap.size zs w2 o2 hPn)
        obtain ⟨k, hk⟩ : ∃ k, (Lib.compact zs).length = k := ⟨_, rfl⟩
        rw [hk] at hK
        rw [HP.out] at HCC
        have HK := Lib.hid hk
        clear hk o2 b2
        go_wp2_with fail
        refine hK.out.mono ?_
        rintro e w3 ⟨rfl, o3, b3⟩
        have B3 := Lib.hid (b3 _ _ rfl B2.out)
        have O3 := Lib.hid o3
        clear o3 b3
        go_wp2_with fail
        go_ret
        exact ret_own HCC.out (by rw [List.length_map, HK.out]) O3.out B3.out _ rfl
end Go.Proofs.Ytmmliepkcgdnlaa
