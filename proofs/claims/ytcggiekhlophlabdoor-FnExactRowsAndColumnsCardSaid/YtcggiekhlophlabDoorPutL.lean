/-
  Contracts: a number put into an increasing list, of the model. Conditions: none.
-/
import Derived.Test.YtcggiekhlophlabDoorRcI
import Derived.Laws.AppendOwnNone
namespace Go.Proofs.YtcggiekhlophlabDoor
open Go.RowKit Go.Shelf
set_option linter.unusedVariables false
set_option linter.unusedSimpArgs false

/-- the place of the first number that is not less -/
def putAt (l : List Int) (v : Int) : Nat := (l.takeWhile fun z => decide (z < v)).length
def putI (l : List Int) (v : Int) : List Int := if l[putAt l v]? = some v then l else l.take (putAt l v) ++ v :: l.drop (putAt l v)
theorem putAt_eq {l : List Int} {v : Int} {k : Nat} (hk : k ≤ l.length) (h1 : ∀ j, j < k → ∀ z, l[j]? = some z → z < v) (h2 : ∀ z, l[k]? = some z → ¬ z < v) : putAt l v = k := by
  induction l generalizing k with
  | nil => simp at hk; subst hk; rfl
  | cons a r ih =>
    cases k with
    | zero =>
      have := h2 a rfl
      simp [putAt, this]
    | succ k =>
      have ha := h1 0 (by omega) a rfl
      have := ih (k := k) (by simpa using hk) (fun j hj z hz => h1 (j + 1) (by omega) z (by simpa using hz)) (fun z hz => h2 z (by simpa using hz))
      simp only [putAt, List.takeWhile_cons, ha, decide_true, if_true, List.length_cons] at *
      rw [this]

theorem addr_addP (b o j : Nat) : (⟨b, o, none⟩ : Addr).add j = ⟨b, o + j, none⟩ := by unfold Addr.add; split <;> simp_all
theorem rd_addP {w : World} {b n : Nat} {xs : List Int} (hr : Rd w 1 (some ⟨b, 0, none⟩) n (intCells xs)) {k : Nat} (hk : k ≤ n) : (∀ (j : Nat) (u : Value), (intCells (xs.take k))[j]? = some u → w.cell? ((⟨b, 0, none⟩ : Addr).add j) = some u) ∧ (∀ (j : Nat) (u : Value), (intCells (xs.drop k))[j]? = some u → w.cell? ((⟨b, k, none⟩ : Addr).add j) = some u) := by
  have hl := hr.ilen
  by_cases h0 : 0 < n
  · obtain ⟨b', o', e, _, hc⟩ := hr.2 h0
    simp only [Option.some.injEq, Addr.mk.injEq, and_true] at e
    obtain ⟨rfl, rfl⟩ := e
    constructor
    · intro j u hu
      rw [addr_addP]
      refine hc j u ?_
      have hj : j < k := by have := (List.getElem?_eq_some_iff.1 hu).1; rw [length_intCells, List.length_take] at this; omega
      simp only [intCells, List.getElem?_map] at hu ⊢
      rw [List.getElem?_take, if_pos hj] at hu
      exact hu
    · intro j u hu
      rw [addr_addP]
      have e : k + j = 0 + (k + j) := by omega
      rw [e]
      refine hc (k + j) u ?_
      simp only [intCells, List.getElem?_map, List.getElem?_drop] at hu ⊢
      exact hu
  · have : xs = [] := List.eq_nil_of_length_eq_zero (by omega)
    subst this
    constructor <;> (intro j u hu; simp [intCells] at hu)

set_option maxRecDepth 100000 in
set_option maxHeartbeats 4000000 in
theorem l1Put_some (g n c B : Nat) (l : List Int) (v : Int) (w : World) (ho : w.ownsRow B 3 1 (.slice (some ⟨g, 0, none⟩) n c) n (intCells l)) (hn1 : 1 ≤ n) (hn : n ≤ 1000) (hB : B ≤ w.heap.size) (hnc : n ≤ c) (hc : c ≤ 9223372036854775807) :
    Calls Tryd.prog 26 #[.slice (some ⟨g, 0, none⟩) n c, .int .i64 v] w fun e w' => ∃ A' n' c', e = .returned (.slice A' n' c') ∧ w'.ownsRow B 3 1 (.slice A' n' c') n' (intCells (putI l v)) ∧ Below w.heap.size w w' ∧ n' = (putI l v).length ∧ 1 ≤ n' := by
  obtain ⟨i0, hi, hz0, hz1, hz2⟩ := info_parts int_infoR
  have hr := Rd.of_own ho
  have hl := Lib.hid hr.ilen
  have HO := Lib.hid ho
  clear ho
  go_enter Tryd.func26, Tryd.ntmps26
  go_wp2
  go_loop [5] (fun i => ∃ k : Nat, k ≤ n ∧ i = .int .i64 k ∧ Hid (∀ j, j < k → ∀ z, l[j]? = some z → z < v)) (fun i => n - (intOf i).toNat)
  case atStart => exact ⟨0, Nat.zero_le _, rfl, fun j hj => by omega⟩
  case round =>
    obtain ⟨k, hk, rfl, hT⟩ := hrel
    by_cases hlt : k < n
    · obtain ⟨b1, o1, e1, l1, hx, p1⟩ := hr.num hlt
      simp only [Option.some.injEq, Addr.mk.injEq, and_true] at e1
      obtain ⟨rfl, rfl⟩ := e1
      have hxe : l[k]? = some l[k] := List.getElem?_eq_getElem hx
      have p1' : w.cell? ⟨g, k, none⟩ = some (.int .i64 l[k]) := by rw [Nat.zero_add] at p1; exact p1
      generalize l[k] = z at *
      by_cases hzv : z < v
      · have HS : Hid (∀ j, j < k + 1 → ∀ y, l[j]? = some y → y < v) := fun j hj y hy => by
          by_cases e : j = k
          · subst e; rw [hxe] at hy; injection hy with hy; rw [← hy]; exact hzv
          · exact hT.out j (by omega) y hy
        clear hT hxe
        go_wp2
        go_round
        case rel => exact ⟨k + 1, by omega, by go_num, HS⟩
        case measure => simp [intOf]; omega
      · have HP : Hid (putAt l v = k) := putAt_eq (by have := hl.out; omega) hT.out (fun y hy => by rw [hxe] at hy; injection hy with hy; rw [← hy]; exact hzv)
        by_cases hev : z = v
        · have HQ : Hid (putI l v = l) := by
            simp only [Hid, putI, HP.out, hxe, hev, if_true]
          have hvi : (z == v) = true := by simp [hev]
          clear hT hev
          go_wp2
          go_ret
          exact ⟨_, n, c, rfl, by rw [HQ.out]; exact HO.out, Below.refl _ _, by rw [HQ.out, hl.out], hn1⟩
        · have HQ : Hid (putI l v = l.take k ++ v :: l.drop k) := by
            simp only [Hid, putI, HP.out, hxe, Option.some.injEq, hev, if_false]
          have hvi : (z == v) = false := by simp [hev]
          have hne := World.ownsRow_lit (base := w.heap.size) (e := 3) (size := 1) w #[] 0 (Nat.le_refl _) (by simp [maxLen]) rfl
          have hr2 := hr.alloc (.cells #[] 3)
          have hc0 : (intCells (l.take k)).length = k * 1 := by rw [length_intCells, List.length_take, hl.out]; omega
          have hc1 := (rd_addP hr2 hk).1
          have hc3 : 0 + k ≤ maxLen := by simp only [maxLen]; omega
          have hc4 : (0 + k) * 8 ≤ 140737488355328 := by omega
          have hc5 : w.heap.size ≤ (w.alloc (.cells #[] 3)).heap.size := by simp
          have HRR := Lib.hid hr
          clear hT hev hxe
          go_wp2_with (at_builtin; refine wpList_append_own _ rfl (.tmp 34) (.tmp 37) 30 rfl w.heap.size 3 i0 (.int .i64 0) 1 8 Tryd.underlying30 hi hz0 hz1 hz2 rfl (by decide) _ _ _ rfl hne ⟨g, 0, none⟩ k c (intCells (l.take k)) rfl hc0 hc1 (int_oneCell _) hc3 hc4 hc5 ?_)
          intro v1 w2 hown1 hgrow1 _
          have hb2 := gb_new (Nat.le_refl _) ((Below.refl w.heap.size w).alloc (Nat.le_refl _) (.cells #[] 3)) hgrow1 (fun q hq => (hne.lt q hq).1)
          obtain ⟨A1, c1, rfl⟩ := own_slice hown1
          have HO1 : Hid (w2.ownsRow w.heap.size 3 1 (.slice A1 (0 + k) c1) (0 + k) (intCells (l.take k))) := by simp only [Hid]; simpa using hown1
          rw [Nat.zero_add] at HO1
          have HB2 := Lib.hid hb2
          have s2 := hb2.size
          have hd3 : k + 1 ≤ maxLen := by simp only [maxLen]; omega
          clear hne hr2 hc0 hc1 hc3 hc4 hc5 hown1 hgrow1 hb2 hr
          go_wp2_with (at_builtin; refine wpList_append_own _ rfl (.tmp 39) (.tmp 41) 30 rfl w.heap.size 3 i0 (.int .i64 0) 1 8 Tryd.underlying30 hi hz0 hz1 hz2 rfl (by decide) _ _ _ (by (try rw [Nat.zero_add]); rfl) (HO1.out.alloc _) ⟨w2.heap.size, 0, none⟩ 1 1 [.int .i64 v] rfl rfl (new1 _ _ _) (int_oneCell [_]) hd3 (by omega) (Nat.le_trans s2 (show w2.heap.size ≤ _ by simp)) ?_)
          intro v2 w3 hown2 hgrow2 _
          have hb3 := gb_new (Nat.le_refl _) (HB2.out.alloc s2 (.cells #[.int .i64 v] 3)) hgrow2 (fun q hq => (HO1.out.lt q hq).1)
          obtain ⟨A2, c2, rfl⟩ := own_slice hown2
          have HO2 := Lib.hid hown2
          have HB3 := Lib.hid hb3
          have s3 := hb3.size
          have he0 : (intCells (l.drop k)).length = (n - k) * 1 := by rw [length_intCells, List.length_drop, hl.out]; omega
          have he1 := (rd_addP (HRR.out.later hb3 (Nat.le_refl _)) hk).2
          have he3 : k + 1 + (n - k) ≤ maxLen := by simp only [maxLen]; omega
          have he4 : (k + 1 + (n - k)) * 8 ≤ 140737488355328 := by omega
          clear hown2 hgrow2 hb3 hd3
          go_wp2_with (at_builtin; refine wpList_append_own _ rfl (.tmp 43) (.tmp 46) 30 rfl w.heap.size 3 i0 (.int .i64 0) 1 8 Tryd.underlying30 hi hz0 hz1 hz2 rfl (by decide) _ _ _ rfl HO2.out ⟨g, k, none⟩ (n - k) (c - k) (intCells (l.drop k)) rfl he0 he1 (int_oneCell _) he3 he4 s3 ?_)
          intro v3 w4 hown3 hgrow3 _
          have hb4 := gb_new (Nat.le_refl _) HB3.out hgrow3 (fun q hq => (HO2.out.lt q hq).1)
          obtain ⟨A3, c3, rfl⟩ := own_slice hown3
          have HO3 := Lib.hid hown3
          have HB4 := Lib.hid hb4
          have hlen : k + 1 + (n - k) = n + 1 := by omega
          have HLN := Lib.hid hlen
          clear hown3 hgrow3 hb4 he0 he1 he3 he4 hlen
          go_wp2
          go_ret
          refine ⟨A3, k + 1 + (n - k), c3, rfl, ?_, HB4.out, ?_, by omega⟩
          · have h := own_base HO3.out hB
            rw [HQ.out, intCells_append]
            simpa [intCells] using h
          · rw [HQ.out]; simp only [List.length_append, List.length_cons, List.length_take, List.length_drop, hl.out]; omega
    · have hkn : k = n := by omega
      subst hkn
      have HP : Hid (putAt l v = k) := putAt_eq (by have := hl.out; omega) hT.out (fun y hy => by
        have : l[k]? = none := List.getElem?_eq_none (by have := hl.out; omega)
        rw [this] at hy; cases hy)
      have HQ : Hid (putI l v = l ++ [v]) := by
        have h1 : l[k]? = none := List.getElem?_eq_none (by have := hl.out; omega)
        have h2 : l.take k = l := List.take_of_length_le (by have := hl.out; omega)
        have h3 : l.drop k = [] := List.drop_of_length_le (by have := hl.out; omega)
        simp [Hid, putI, HP.out, h1, h2, h3]
      clear hlt
      by_cases hck : c = k
      · have hck2 := hck.symm
        subst hck2
        clear hck
        have hne := World.ownsRow_lit (base := w.heap.size) (e := 3) (size := 1) w #[] 0 (Nat.le_refl _) (by simp [maxLen]) rfl
        have hr2 := hr.alloc (.cells #[] 3)
        have hc0 : (intCells (l)).length = k * 1 := by rw [length_intCells, hl.out]; omega
        have hc1 := (fun j u hu => (rd_addP hr2 (Nat.le_refl k)).1 j u (by rw [List.take_of_length_le (by rw [hl.out]; exact Nat.le_refl _)]; exact hu))
        have hc3 : 0 + k ≤ maxLen := by simp only [maxLen]; omega
        have hc4 : (0 + k) * 8 ≤ 140737488355328 := by omega
        have hc5 : w.heap.size ≤ (w.alloc (.cells #[] 3)).heap.size := by simp
        have HRR := Lib.hid hr
        clear hT
        go_wp2_with (at_builtin; refine wpList_append_own _ rfl (.tmp 34) (.tmp 37) 30 rfl w.heap.size 3 i0 (.int .i64 0) 1 8 Tryd.underlying30 hi hz0 hz1 hz2 rfl (by decide) _ _ _ rfl hne ⟨g, 0, none⟩ k k (intCells (l)) rfl hc0 hc1 (int_oneCell _) hc3 hc4 hc5 ?_)
        intro v1 w2 hown1 hgrow1 _
        have hb2 := gb_new (Nat.le_refl _) ((Below.refl w.heap.size w).alloc (Nat.le_refl _) (.cells #[] 3)) hgrow1 (fun q hq => (hne.lt q hq).1)
        obtain ⟨A1, c1, rfl⟩ := own_slice hown1
        have HO1 : Hid (w2.ownsRow w.heap.size 3 1 (.slice A1 (0 + k) c1) (0 + k) (intCells (l))) := by simp only [Hid]; simpa using hown1
        rw [Nat.zero_add] at HO1
        have HB2 := Lib.hid hb2
        have s2 := hb2.size
        have hd3 : k + 1 ≤ maxLen := by simp only [maxLen]; omega
        clear hne hr2 hc0 hc1 hc3 hc4 hc5 hown1 hgrow1 hb2 hr
        go_wp2_with (at_builtin; refine wpList_append_own _ rfl (.tmp 39) (.tmp 41) 30 rfl w.heap.size 3 i0 (.int .i64 0) 1 8 Tryd.underlying30 hi hz0 hz1 hz2 rfl (by decide) _ _ _ (by (try rw [Nat.zero_add]); rfl) (HO1.out.alloc _) ⟨w2.heap.size, 0, none⟩ 1 1 [.int .i64 v] rfl rfl (new1 _ _ _) (int_oneCell [_]) hd3 (by omega) (Nat.le_trans s2 (show w2.heap.size ≤ _ by simp)) ?_)
        intro v2 w3 hown2 hgrow2 _
        have hb3 := gb_new (Nat.le_refl _) (HB2.out.alloc s2 (.cells #[.int .i64 v] 3)) hgrow2 (fun q hq => (HO1.out.lt q hq).1)
        obtain ⟨A2, c2, rfl⟩ := own_slice hown2
        have HO2 := Lib.hid hown2
        have HB3 := Lib.hid hb3
        have s3 := hb3.size
        have he0 : (intCells []).length = 0 * 1 := rfl
        have he1 : ∀ (j : Nat) (u : Value), (intCells [])[j]? = some u → w3.cell? ((⟨g, 0, none⟩ : Addr).add j) = some u := fun j u hu => by simp [intCells] at hu
        have he3 : k + 1 + 0 ≤ maxLen := by simp only [maxLen]; omega
        have he4 : (k + 1 + 0) * 8 ≤ 140737488355328 := by omega
        clear hown2 hgrow2 hb3 hd3
        go_wp2_with (at_builtin; refine wpList_append_own _ rfl (.tmp 43) (.tmp 46) 30 rfl w.heap.size 3 i0 (.int .i64 0) 1 8 Tryd.underlying30 hi hz0 hz1 hz2 rfl (by decide) _ _ _ rfl HO2.out ⟨g, 0, none⟩ 0 0 (intCells []) rfl he0 he1 (int_oneCell _) he3 he4 s3 ?_)
        intro v3 w4 hown3 hgrow3 _
        have hb4 := gb_new (Nat.le_refl _) HB3.out hgrow3 (fun q hq => (HO2.out.lt q hq).1)
        obtain ⟨A3, c3, rfl⟩ := own_slice hown3
        have HO3 := Lib.hid hown3
        have HB4 := Lib.hid hb4
        clear hown3 hgrow3 hb4 he0 he1 he3 he4
        go_wp2
        go_ret
        refine ⟨A3, k + 1, c3, rfl, ?_, HB4.out, ?_, by omega⟩
        · have h := own_base HO3.out hB
          rw [HQ.out, intCells_append]
          simpa [intCells] using h
        · rw [HQ.out]; simp only [List.length_append, hl.out, List.length_cons, List.length_nil]
      · have hckl : k < c := by omega
        have hne := World.ownsRow_lit (base := w.heap.size) (e := 3) (size := 1) w #[] 0 (Nat.le_refl _) (by simp [maxLen]) rfl
        have hr2 := hr.alloc (.cells #[] 3)
        have hc0 : (intCells (l)).length = k * 1 := by rw [length_intCells, hl.out]; omega
        have hc1 := (fun j u hu => (rd_addP hr2 (Nat.le_refl k)).1 j u (by rw [List.take_of_length_le (by rw [hl.out]; exact Nat.le_refl _)]; exact hu))
        have hc3 : 0 + k ≤ maxLen := by simp only [maxLen]; omega
        have hc4 : (0 + k) * 8 ≤ 140737488355328 := by omega
        have hc5 : w.heap.size ≤ (w.alloc (.cells #[] 3)).heap.size := by simp
        have HRR := Lib.hid hr
        clear hT
        go_wp2_with (at_builtin; refine wpList_append_own _ rfl (.tmp 34) (.tmp 37) 30 rfl w.heap.size 3 i0 (.int .i64 0) 1 8 Tryd.underlying30 hi hz0 hz1 hz2 rfl (by decide) _ _ _ rfl hne ⟨g, 0, none⟩ k c (intCells (l)) rfl hc0 hc1 (int_oneCell _) hc3 hc4 hc5 ?_)
        intro v1 w2 hown1 hgrow1 _
        have hb2 := gb_new (Nat.le_refl _) ((Below.refl w.heap.size w).alloc (Nat.le_refl _) (.cells #[] 3)) hgrow1 (fun q hq => (hne.lt q hq).1)
        obtain ⟨A1, c1, rfl⟩ := own_slice hown1
        have HO1 : Hid (w2.ownsRow w.heap.size 3 1 (.slice A1 (0 + k) c1) (0 + k) (intCells (l))) := by simp only [Hid]; simpa using hown1
        rw [Nat.zero_add] at HO1
        have HB2 := Lib.hid hb2
        have s2 := hb2.size
        have hd3 : k + 1 ≤ maxLen := by simp only [maxLen]; omega
        clear hne hr2 hc0 hc1 hc3 hc4 hc5 hown1 hgrow1 hb2 hr
        go_wp2_with (at_builtin; refine wpList_append_own _ rfl (.tmp 39) (.tmp 41) 30 rfl w.heap.size 3 i0 (.int .i64 0) 1 8 Tryd.underlying30 hi hz0 hz1 hz2 rfl (by decide) _ _ _ (by (try rw [Nat.zero_add]); rfl) (HO1.out.alloc _) ⟨w2.heap.size, 0, none⟩ 1 1 [.int .i64 v] rfl rfl (new1 _ _ _) (int_oneCell [_]) hd3 (by omega) (Nat.le_trans s2 (show w2.heap.size ≤ _ by simp)) ?_)
        intro v2 w3 hown2 hgrow2 _
        have hb3 := gb_new (Nat.le_refl _) (HB2.out.alloc s2 (.cells #[.int .i64 v] 3)) hgrow2 (fun q hq => (HO1.out.lt q hq).1)
        obtain ⟨A2, c2, rfl⟩ := own_slice hown2
        have HO2 := Lib.hid hown2
        have HB3 := Lib.hid hb3
        have s3 := hb3.size
        have he0 : (intCells []).length = 0 * 1 := rfl
        have he1 : ∀ (j : Nat) (u : Value), (intCells [])[j]? = some u → w3.cell? ((⟨g, k, none⟩ : Addr).add j) = some u := fun j u hu => by simp [intCells] at hu
        have he3 : k + 1 + 0 ≤ maxLen := by simp only [maxLen]; omega
        have he4 : (k + 1 + 0) * 8 ≤ 140737488355328 := by omega
        clear hown2 hgrow2 hb3 hd3
        go_wp2_with (at_builtin; refine wpList_append_own _ rfl (.tmp 43) (.tmp 46) 30 rfl w.heap.size 3 i0 (.int .i64 0) 1 8 Tryd.underlying30 hi hz0 hz1 hz2 rfl (by decide) _ _ _ rfl HO2.out ⟨g, k, none⟩ 0 (c - k) (intCells []) rfl he0 he1 (int_oneCell _) he3 he4 s3 ?_)
        intro v3 w4 hown3 hgrow3 _
        have hb4 := gb_new (Nat.le_refl _) HB3.out hgrow3 (fun q hq => (HO2.out.lt q hq).1)
        obtain ⟨A3, c3, rfl⟩ := own_slice hown3
        have HO3 := Lib.hid hown3
        have HB4 := Lib.hid hb4
        clear hown3 hgrow3 hb4 he0 he1 he3 he4
        go_wp2
        go_ret
        refine ⟨A3, k + 1, c3, rfl, ?_, HB4.out, ?_, by omega⟩
        · have h := own_base HO3.out hB
          rw [HQ.out, intCells_append]
          simpa [intCells] using h
        · rw [HQ.out]; simp only [List.length_append, hl.out, List.length_cons, List.length_nil]

set_option maxRecDepth 100000 in
set_option maxHeartbeats 2000000 in
theorem l1Put_nil (v : Int) (w : World) :
    Calls Tryd.prog 26 #[.slice none 0 0, .int .i64 v] w fun e w' => ∃ A' n' c', e = .returned (.slice A' n' c') ∧ w'.ownsRow w.heap.size 3 1 (.slice A' n' c') n' (intCells [v]) ∧ Below w.heap.size w w' ∧ n' = 1 := by
  obtain ⟨i0, hi, hz0, hz1, hz2⟩ := info_parts int_infoR
  have hne := World.ownsRow_lit (base := w.heap.size) (e := 3) (size := 1) w #[] 0 (Nat.le_refl _) (by simp [maxLen]) rfl
  go_enter Tryd.func26, Tryd.ntmps26
  go_wp2
  go_loop [5] (fun i => i = .int .i64 0) (fun i => 0)
  case atStart => rfl
  case round =>
    subst hrel
    have hnw : ∀ (j : Nat) (u : Value), [Value.int .i64 v][j]? = some u → ((w.alloc (.cells #[] 3)).alloc (.cells #[.int .i64 v] 3)).cell? ((⟨w.heap.size + 1, 0, none⟩ : Addr).add j) = some u := by
      have h := new1 (w.alloc (.cells #[] 3)) 3 (.int .i64 v)
      rw [World.size_alloc] at h
      exact h
    have hbs : w.heap.size ≤ ((w.alloc (.cells #[] 3)).alloc (.cells #[.int .i64 v] 3)).heap.size := by simp; omega
    have hm1 : 0 + 1 ≤ maxLen := by simp [maxLen]
    have hne2 := hne.alloc (.cells #[.int .i64 v] 3)
    go_wp2_with first | (at_builtin; refine wpList_append_own_none rfl (.tmp 34) (.tmp 37) 30 rfl w.heap.size 3 i0 1 Tryd.underlying30 hi _ _ _ rfl hne rfl ?_) | (at_builtin; refine wpList_append_own _ rfl (.tmp 39) (.tmp 41) 30 rfl w.heap.size 3 i0 (.int .i64 0) 1 8 Tryd.underlying30 hi hz0 hz1 hz2 rfl (by decide) _ _ _ rfl hne2 ⟨w.heap.size + 1, 0, none⟩ 1 1 [.int .i64 v] rfl rfl hnw (int_oneCell [v]) hm1 (by decide) hbs ?_)
    intro v2 w3 hown2 hgrow2 _
    have hb3 := gb_new (Nat.le_refl _) (((Below.refl w.heap.size w).alloc (Nat.le_refl _) (.cells #[] 3)).alloc (by simp) (.cells #[.int .i64 v] 3)) hgrow2 (fun q hq => (hne2.lt q hq).1)
    obtain ⟨A2, c2, rfl⟩ := own_slice hown2
    have HO2 := Lib.hid hown2
    have HB3 := Lib.hid hb3
    clear hown2 hgrow2 hb3 hne hne2 hnw
    go_wp2_with (at_builtin; refine wpList_append_own_none rfl (.tmp 43) (.tmp 46) 30 rfl w.heap.size 3 i0 1 Tryd.underlying30 hi _ _ _ rfl HO2.out rfl ?_)
    go_ret
    exact ⟨A2, 0 + 1, c2, rfl, HO2.out, HB3.out, rfl⟩

theorem l1Put_any (A : Option Addr) (n c B : Nat) (l : List Int) (v : Int) (w : World) (ho : w.ownsRow B 3 1 (.slice A n c) n (intCells l)) (h0 : n = 0 → A = none ∧ c = 0) (hn : n ≤ 1000) (hB : B ≤ w.heap.size) :
    Calls Tryd.prog 26 #[.slice A n c, .int .i64 v] w fun e w' => ∃ A' n' c', e = .returned (.slice A' n' c') ∧ w'.ownsRow B 3 1 (.slice A' n' c') n' (intCells (putI l v)) ∧ Below w.heap.size w w' ∧ 1 ≤ n' := by
  by_cases hn1 : 1 ≤ n
  · rcases ho.2 with ⟨e, e2⟩ | ⟨g, cap, cur, e, _, _, hnc, hcm, _, _⟩
    · omega
    · simp only [Value.slice.injEq] at e
      obtain ⟨rfl, _, rfl⟩ := e
      exact (l1Put_some g n c B l v w ho hn1 hn hB hnc (by unfold maxLen at hcm; omega)).mono fun e w' ⟨A', n', c', h1, h2, h3, _, h5⟩ => ⟨A', n', c', h1, h2, h3, h5⟩
  · have hz : n = 0 := by omega
    subst hz
    obtain ⟨rfl, rfl⟩ := h0 rfl
    have hl : l = [] := List.eq_nil_of_length_eq_zero (by have := (Rd.of_own ho).ilen; omega)
    subst hl
    exact (l1Put_nil v w).mono fun e w' ⟨A', n', c', h1, h2, h3, h4⟩ => ⟨A', n', c', h1, own_base (by simpa [putI, putAt] using h2) hB, h3, by omega⟩
end Go.Proofs.YtcggiekhlophlabDoor
