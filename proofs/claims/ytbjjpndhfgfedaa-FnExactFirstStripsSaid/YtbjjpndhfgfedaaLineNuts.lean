/-
  Contract: lineNuts of the program: how many nuts are in each column, or in each row.
-/
import Derived.Test.YtbjjpndhfgfedaaNutMap
import Derived.Test.YtbjjpndhfgfedaaLines
import Derived.WalkMore
import Derived.ScopeJumps
import Derived.Outline
namespace Go.Proofs.Ytbjjpndhfgfedaa
open Go.RowKit Go.Maps

theorem int_info : (Try.prog.info? 3).map (fun i => (i.zero, i.size, i.bytes)) = some (some (.int .i64 0), 1, 8) := by kernel_rfl

/-- a scope whose first pass comes to the label itself -/
theorem wp_scope_again {P : Program} {a : Act} {w : World} {Q : Exit → Act → World → Prop} {c rest : Code} (l : Nat) (J : Act → World → Prop) (μ : Act → World → Nat) (hf : findLabel c l = some (Code.skip.seq rest))
    (pass : ∀ a w, J a w → rest.wp P (Exit.jump l (fun a' w' => J a' w' ∧ μ a' w' < μ a w) Q) a w)
    (first : (∀ a w, J a w → rest.wp P (Exit.jump l J Q) a w) → c.wp P (Exit.jump l J Q) a w) : (Code.scope c).wp P Q a w :=
  wp_scope_jumps l J μ hf (first fun a w h => wp_mono (pass a w h) (by
    intro e a' w' he
    cases e with
    | goto l' => exact ⟨he.1, he.2.1⟩
    | _ => exact he)) (fun a w h => wp_seq (wp_skip (pass a w h)))

theorem SetAt.grown {w w' : World} {b : Nat} {S : List Nut} {row : Option Nat} (h : SetAt w b S) (hg : w.grownBy w' row) (hne : some b ≠ row) : SetAt w' b S := by
  obtain ⟨D, h1, h2⟩ := h
  exact ⟨D, h1.kept hg hne, h2⟩
theorem SetAt.lt {w : World} {b : Nat} {S : List Nut} (h : SetAt w b S) : b < w.heap.size := by
  obtain ⟨D, h1, _⟩ := h
  exact h1.lt
theorem SetAt.below {w w' : World} {b : Nat} {S : List Nut} (h : SetAt w b S) (hg : Below w.heap.size w w') : SetAt w' b S := h.grown (gb_below hg none) (by simp)

def lineOf (d : Bool) (k : Nut) : Nat := if d then k.1 else k.2.1
/-- the nuts in a line -/
def cntL (ss : List ByteArray) (W n : Nat) (d : Bool) (i : Nat) : Nat := ((allN ss W n).filter fun k => decide (lineOf d k = i)).length
/-- the sums when the lines before one are done -/
def sumsTo (ss : List ByteArray) (W n N : Nat) (d : Bool) (line : Nat) : List Int := (List.range N).map fun i => if i < line then (cntL ss W n d i : Int) else 0
theorem intLits_inv {P : Program} {m : Nat} {t : TypeId} {q : IntKind} {a : Value} {ls : List Lit} (ht : P.underlying t = some (.int q)) (h : P.keyLits (m + 1) t [a] = some ls) : ∃ x, a = .int q x := by
  unfold Program.keyLits at h
  rw [ht] at h
  cases a <;> simp at h
  exact ⟨_, by rw [h.1.1]⟩
theorem nutKey_inv {key : Value} {kl : Lit} (h : keyOf Try.prog 87 key = some kl) : ∃ x : Int × Int × Int, key = nut3 x.1 x.2.1 x.2.2 := by
  obtain ⟨m, hm⟩ : ∃ m, Try.prog.types.size + 1 = m + 2 := ⟨Try.prog.types.size - 1, by have : 2 ≤ Try.prog.types.size := of_decide_eq_true (by kernel_rfl); omega⟩
  have hi := Try.underlying3
  have ci : Try.prog.cellsOf 3 = 1 := by kernel_rfl
  unfold keyOf at h
  rw [Try.underlying87] at h
  simp only [nutKeyType, Bool.true_and, hm] at h
  split at h
  · rename_i hf
    cases key <;> simp [Value.formed, Try.underlying87, nutCells] at hf
    rename_i cs
    obtain ⟨a, b, c, rfl⟩ : ∃ a b c, cs = #[a, b, c] := by
      obtain ⟨l⟩ := cs
      match l, hf with
      | [a, b, c], _ => exact ⟨a, b, c, rfl⟩
    unfold Program.keyLits at h
    simp [Try.underlying87, nutCells, ci, Value.cells, Option.bind_eq_some_iff] at h
    obtain ⟨l1, h1, l2, ⟨a2, h2, _, ⟨a3, h3, _⟩, _⟩, _⟩ := h
    obtain ⟨x1, rfl⟩ := intLits_inv hi h1
    obtain ⟨x2, rfl⟩ := intLits_inv hi h2
    obtain ⟨x3, rfl⟩ := intLits_inv hi h3
    exact ⟨(x1, x2, x3), rfl⟩
  · cases h

/-- in the midst of a pass for a line over the set S, its iterator in block r -/
def LNI (ss : List ByteArray) (W n N : Nat) (d : Bool) (w : World) (g line r : Nat) (S : List Nut) (wr : World) : Prop :=
  ∃ (left : Lit → Bool) (cnt : Nat) (D : DataW Unit) (T : List Nut), wr.ranges Try.prog 87 (plainElem Try.prog 4) w.heap.size r S.length D left cnt ∧ SetOf D T ∧ (∀ k ∈ T, k ∈ S) ∧ (∀ k ∈ S, k ∉ T → lineOf d k = line) ∧
    (∀ k ∈ T, lineOf d k = line → left (lit3 k) = true) ∧ T.length ≤ S.length ∧ wr.ownsRow (w.heap.size + 1) 3 1 (.slice (some ⟨g, 0, none⟩) N N) N (intCells ((sumsTo ss W n N d line).set line ((S.length - T.length : Nat) : Int))) ∧ Below w.heap.size w wr
def LN (ss : List ByteArray) (W n N : Nat) (d : Bool) (w : World) (g line : Nat) (w' : World) : Prop :=
  (allN ss W n).Nodup ∧ ∃ S : List Nut, S.length ≤ 1000 ∧ SetAt w' w.heap.size S ∧ (∀ k, k ∈ S ↔ k ∈ allN ss W n ∧ line ≤ lineOf d k) ∧ w'.ownsRow (w.heap.size + 1) 3 1 (.slice (some ⟨g, 0, none⟩) N N) N (intCells (sumsTo ss W n N d line)) ∧ Below w.heap.size w w'

theorem len_of_same {A B : List Nut} (ha : A.Nodup) (hb : B.Nodup) (h : ∀ k, k ∈ A ↔ k ∈ B) : A.length = B.length :=
  ((List.perm_ext_iff_of_nodup ha hb).2 h).length_eq
theorem sums_start (ss : List ByteArray) (W n N : Nat) (d : Bool) (line m : Nat) : (sumsTo ss W n N d line).set line ((m - m : Nat) : Int) = sumsTo ss W n N d line := by
  apply List.ext_getElem?
  intro j
  rw [List.getElem?_set]
  by_cases h : line = j
  · subst h
    rw [if_pos rfl]
    simp [sumsTo]
    by_cases hj : line < N
    · simp [hj]
    · simp [hj]
  · rw [if_neg h]
theorem sums_end {ss : List ByteArray} {W n N : Nat} {d : Bool} {line : Nat} {S T : List Nut} (hall : (allN ss W n).Nodup) (hS : S.Nodup) (hT : T.Nodup) (hmem : ∀ k, k ∈ S ↔ k ∈ allN ss W n ∧ line ≤ lineOf d k) (h1 : ∀ k ∈ T, k ∈ S)
    (h2 : ∀ k ∈ S, k ∉ T → lineOf d k = line) (h3 : ∀ k ∈ T, lineOf d k ≠ line) : (sumsTo ss W n N d line).set line ((S.length - T.length : Nat) : Int) = sumsTo ss W n N d (line + 1) := by
  have e1 : T.length = (S.filter fun k => !decide (lineOf d k = line)).length := len_of_same hT (hS.filter _) fun k => by
    simp only [List.mem_filter, Bool.not_eq_true', decide_eq_false_iff_not]
    constructor
    · intro h; exact ⟨h1 k h, h3 k h⟩
    · rintro ⟨h, h'⟩
      by_cases hk : k ∈ T
      · exact hk
      · exact absurd (h2 k h hk) h'
  have e2 : (S.filter fun k => decide (lineOf d k = line)).length = cntL ss W n d line := len_of_same (hS.filter _) (hall.filter _) fun k => by
    simp only [List.mem_filter, hmem, decide_eq_true_eq]
    constructor
    · rintro ⟨⟨a, _⟩, b⟩; exact ⟨a, b⟩
    · rintro ⟨a, b⟩; exact ⟨⟨a, by omega⟩, b⟩
  have e3 : S.length = (S.filter fun k => decide (lineOf d k = line)).length + (S.filter fun k => !decide (lineOf d k = line)).length := by
    clear hS hmem h1 h2 e1 e2
    induction S with
    | nil => rfl
    | cons a S ih =>
      by_cases h : lineOf d a = line
      · simp [h, ih]; omega
      · simp [h, ih]; omega
  have e4 : S.length - T.length = cntL ss W n d line := by omega
  rw [e4]
  apply List.ext_getElem?
  intro j
  rw [List.getElem?_set]
  by_cases h : line = j
  · subst h
    rw [if_pos rfl]
    by_cases hj : line < N
    · simp [sumsTo, hj]
    · simp [sumsTo, hj]
  · rw [if_neg h]
    by_cases hj : j < N
    · simp only [sumsTo, List.getElem?_map, List.getElem?_range hj, Option.map_some]
      by_cases hjl : j < line
      · rw [if_pos hjl, if_pos (by omega)]
      · rw [if_neg hjl, if_neg (by omega)]
    · simp [sumsTo, hj]
theorem sums_done {ss : List ByteArray} {W n N : Nat} {d : Bool} {m : Nat} (h : ∀ k ∈ allN ss W n, lineOf d k < m) : sumsTo ss W n N d m = sumsTo ss W n N d N := by
  apply List.map_congr_left
  intro i hi
  rw [List.mem_range] at hi
  rw [if_pos hi]
  by_cases him : i < m
  · rw [if_pos him]
  · rw [if_neg him]
    have : cntL ss W n d i = 0 := by
      unfold cntL
      rw [List.length_eq_zero_iff, List.filter_eq_nil_iff]
      intro k hk
      have := h k hk
      simp
      omega
    rw [this]
    rfl
theorem length_sumsTo (ss : List ByteArray) (W n N : Nat) (d : Bool) (line : Nat) : (sumsTo ss W n N d line).length = N := by simp [sumsTo]
theorem lineOf_lt {ss : List ByteArray} {W n : Nat} {d : Bool} {k : Nut} (h : k ∈ allN ss W n) : lineOf d k < (if d then W else n) := by
  rw [mem_allN] at h
  cases d <;> simp [lineOf] <;> omega

set_option maxRecDepth 100000 in
set_option maxHeartbeats 8000000 in
theorem lineNuts_any (A : Option Addr) (n c W : Nat) (ss : List ByteArray) (d : Bool) (w : World) (hr : Rd w 1 A n (strCells ss)) (hb : NB ss W n) :
    Calls Try.prog 52 #[.slice A n c, .bool d] w fun e w' => ∃ A' n' c', e = .returned (.slice A' n' c') ∧ w'.ownsRow w.heap.size 3 1 (.slice A' n' c') n' (intCells (sumsTo ss W n (if d then W else n) d (if d then W else n))) ∧ Below w.heap.size w w' := by
  obtain ⟨i0, hi, hz0, hz1, hz2⟩ := info_parts int_info
  have hn1 := hb.h1
  have hW1 := hb.w1
  have hn8 := hb.h8
  have hW8 := hb.w8
  have hB : barB W n = true := by simp [barB]; omega
  have hsz : ((if d then (W : Int) - 1 else (n : Int) - 1) + 1) = ((if d then W else n : Nat) : Int) := by cases d <;> simp
  have hN8 : (if d then W else n) ≤ 8 := by cases d <;> simp <;> omega
  have hN1 : 1 ≤ (if d then W else n) := by cases d <;> simp <;> omega
  have hlin := linesOf_any (W : Int) n d
  have hL7 : 0 ≤ (if d then (W : Int) - 1 else (n : Int) - 1) ∧ (if d then (W : Int) - 1 else (n : Int) - 1) ≤ 7 := by cases d <;> simp <;> omega
  generalize (if d then (W : Int) - 1 else (n : Int) - 1) = L at *
  generalize hNd : (if d then W else n) = N at *
  have HSZ := Lib.hid hsz
  obtain ⟨L0, L7⟩ := hL7
  have HND := Lib.hid hNd
  clear hsz hNd
  go_enter Try.func52, Try.ntmps52
  go_wp2
  apply wp_scope_again 0 (fun a' w' => ∃ (u8 u9 u10 u11 u12 u13 u14 u15 u16 u17 u18 u19 u20 u21 u22 u23 u24 u25 u26 u27 u28 u29 u30 u31 u32 u33 u34 u35 u36 u37 u38 u39 u40 u41 u42 u43 u44 u45 u46 u47 u48 u49 u50 u51 u52 u53 : Value) (g line : Nat), a' = { tmps := #[.slice A n c, .bool d, undef, undef, .slice none 0 0, .map (some w.heap.size), .slice (some ⟨g, 0, none⟩) N N, .int .i64 (line : Int), u8, u9, u10, u11, u12, u13, u14, u15, u16, u17, u18, u19, u20, u21, u22, u23, u24, u25, u26, u27, u28, u29, u30, u31, u32, u33, u34, u35, u36, u37, u38, u39, u40, u41, u42, u43, u44, u45, u46, u47, u48, u49, u50, u51, u52, u53], defers := [] } ∧ line < N ∧ LN ss W n N d w g line w') (fun a' _ => N - (intOf (a'.tmps.getD 7 undef)).toNat)
  case hf => exact rfl
  case first =>
    intro again
    go_wp2_with fail
    refine (allNuts_any _ _ _ _ ss _ hr hb).mono ?_; rintro e w1 ⟨rfl, hS1, hal, hb1⟩
    go_wp2_with fail
    refine (barOf_any _ _ _ _ ss _ (hr.later hb1 (Nat.le_refl _)) hb).mono ?_; rintro e w2 ⟨rfl, hb2⟩
    go_wp2_with fail
    refine (hlin _ hB).mono ?_; rintro e w3 ⟨rfl, hb3⟩
    have s3 := (bcall hb1.size hb2 hb1).size
    go_wp2_with (at_make; refine wpList_make_full _ rfl (.tmp 15) (.tmp 15) 29 rfl (w.heap.size + 1) 3 i0 (.int .i64 0) 1 Try.underlying29 hi hz0 hz1 .i64 .i64 _ _ N rfl rfl HSZ.out HSZ.out ?b2 ?b3 ?b4 ?_)
    case b2 => rw [hz2]; omega
    case b3 => simp only [maxLen]; omega
    case b4 => have h1 := hS1.lt; have h2 := hb2.size; have h3 := hb3.size; omega
    · intro w4 hown hgrow
      have hb30 : Below w.heap.size w w3 := bcall (bcall hb1.size hb2 hb1).size hb3 (bcall hb1.size hb2 hb1)
      have hb4 : Below w3.heap.size w3 w4 := (Below.refl _ _).grown hgrow (Nat.le_refl _) (fun k hk => by cases hk)
      have hb40 := bcall hb30.size hb4 hb30
      have hS4 := ((hS1.below hb2).below hb3).below hb4
      go_wp2
      go_step3
      rename_i K hK
      have hall : (allN ss W n).Nodup := by obtain ⟨_, _, q⟩ := hS1; exact q.1
      refine hK _ _ (again _ _ ⟨_, _, _, _, _, _, _, _, _, _, _, _, _, _, _, _, _, _, _, _, _, _, _, _, _, _, _, _, _, _, _, _, _, _, _, _, _, _, _, _, _, _, _, _, _, _, _, 0, rfl, by omega, hall, allN ss W n, hal, hS4, by simp, ?_, hb40⟩)
      have e : List.replicate N (Value.int .i64 0) = intCells (sumsTo ss W n N d 0) := by
        apply List.ext_getElem <;> simp [intCells, sumsTo]
      rw [← e, ← toList_madeCells_one]
      exact hown
  case pass =>
    rintro a' wr ⟨u8, u9, u10, u11, u12, u13, u14, u15, u16, u17, u18, u19, u20, u21, u22, u23, u24, u25, u26, u27, u28, u29, u30, u31, u32, u33, u34, u35, u36, u37, u38, u39, u40, u41, u42, u43, u44, u45, u46, u47, u48, u49, u50, u51, u52, u53, g, line, rfl, hline, hall, S, hSl, ⟨D, hmap, hset⟩, hmem, hown, hB⟩
    have hgl := hown.lt g rfl
    obtain ⟨hg1, hg2⟩ := hgl
    have sB := hB.size
    go_wp2_with (at_range; refine wpList_range_own _ rfl _ 83 rfl 87 4 nutLaw Try.underlying83 (plainElem Try.prog 4) w.heap.size S.length D rfl hmap ?_; intro w0 hrg0 hg0 hs0)
    go_frame
    have hB0 : Below w.heap.size w w0 := hB.grown hg0 sB (fun k hk => by cases hk)
    have hown0 := hown.kept hg0 (.inr (by simp [Value.ownBlock]))
    generalize hrr : wr.heap.size = r at hrg0 hs0 ⊢
    have hgr : g < r := by omega
    have hbr : w.heap.size < r := by omega
    clear hrr hown hB sB hmap hg0
    go_loopw [20] (fun _ wr => LNI ss W n N d w g line r S wr) (fun _ wr => wr.rangeLeft w.heap.size r)
    case atStart =>
      refine ⟨_, _, D, S, hrg0, hset, fun k hk => hk, fun k hk h => absurd hk h, fun k hk _ => ?_, Nat.le_refl _, ?_, hB0⟩
      · exact (hset.2.2.2 _).2 ⟨k, hk, rfl⟩
      · rw [sums_start]; exact hown0
    case round =>
      obtain ⟨left, cnt, D1, T, hrg, hsetT, t1, t2, t3, tl, hown, hB⟩ := hrel
      have LE := Lib.hid hrg.left_eq
      go_wp2_with (at_next; refine wpList_next_ranges _ rfl _ rfl 87 nutLaw (plainElem Try.prog 4) (fun x : Int × Int × Int => nut3 x.1 x.2.1 x.2.2) (fun cc : Value => cc) (fun _ _ h => nutKey_inv h) (fun v _ _ => ⟨v, rfl⟩) w.heap.size r S.length D1 left cnt rfl hrg ?d1 ?d2)
      case d1 =>
        intro _ hl0
        have HE := Lib.hid (sums_end (N := N) hall hset.1 hsetT.1 hmem t1 t2 (fun k hk h => by have := t3 k hk h; rw [hl0] at this; cases this))
        have hT : ∀ k, k ∈ T ↔ k ∈ allN ss W n ∧ line + 1 ≤ lineOf d k := by
          intro k
          constructor
          · intro hk
            have h1 := (hmem k).1 (t1 k hk)
            refine ⟨h1.1, ?_⟩
            rcases Nat.lt_or_ge line (lineOf d k) with q | q
            · exact q
            · have := t3 k hk (by omega)
              rw [hl0] at this
              cases this
          · rintro ⟨h1, h2⟩
            by_cases hk : k ∈ T
            · exact hk
            · have := t2 k ((hmem k).2 ⟨h1, by omega⟩) hk
              omega
        have HT := Lib.hid hT
        have hown2 : wr.ownsRow (w.heap.size + 1) 3 1 (.slice (some ⟨g, 0, none⟩) N N) N (intCells (sumsTo ss W n N d (line + 1))) := by rw [← HE.out]; exact hown
        have hownD := hrg.owns
        have hTS : SetAt wr w.heap.size T := by
          obtain ⟨es, clock, q1, q2, q3, q4⟩ := hownD
          refine ⟨D1, ⟨es, clock, q1, q2, ?_, q4⟩, hsetT⟩
          have e := hsetT.2.1
          rw [q4] at e
          simp only [Maps.size, length_read] at e
          omega
        have hND2 := HND.out
        have hlt2 : ∀ k0, k0 ∈ T → line + 1 < N := by
          intro k0 hk0
          have h1 := (hT k0).1 hk0
          have h2 := lineOf_lt (d := d) h1.1
          rw [hND2] at h2
          omega
        clear hND2
        cases hTl : T with
        | nil =>
          have hdone : sumsTo ss W n N d (line + 1) = sumsTo ss W n N d N := sums_done (fun k hk => by
            rcases Nat.lt_or_ge (lineOf d k) (line + 1) with q | q
            · exact q
            · have := (hT k).2 ⟨hk, q⟩
              rw [hTl] at this
              cases this)
          rw [hdone] at hown2
          have hlen : ∀ ty, (Builtin.len_ #[83] ty #[.map (some w.heap.size)]).run Try.prog wr = .ok (.int .i64 0) wr := fun ty => by
            rw [hownD.len Try.underlying83 ty, hsetT.2.1, hTl]
            rfl
          clear hown hdone hT HT hTS hTl hsetT t1 t2 t3 hlt2 hrg hset hmem hrg0 hl0 hown0 hownD
          go_wp2
          simp only [Exit.jump]
          go_ret
          exact ⟨_, N, N, rfl, own_base hown2 (by omega), hB⟩
        | cons k0 T0 =>
          have hl1 := hlt2 k0 (by rw [hTl]; simp)
          have hlen : ∀ ty, (Builtin.len_ #[83] ty #[.map (some w.heap.size)]).run Try.prog wr = .ok (.int .i64 ((T0.length : Int) + 1)) wr := fun ty => by
            rw [hownD.len Try.underlying83 ty, hsetT.2.1, hTl]
            rfl
          have hp : (0 : Int) < (T0.length : Int) + 1 := by omega
          clear hown hT hlt2 hTl hsetT t1 t2 t3 hrg hset hmem hrg0 hl0 hown0 hownD
          go_wp2
          go_step3
          have e1 : (line : Int) + 1 = ((line + 1 : Nat) : Int) := by omega
          rw [e1]
          refine ⟨rfl, ⟨_, _, _, _, _, _, _, _, _, _, _, _, _, _, _, _, _, _, _, _, _, _, _, _, _, _, _, _, _, _, _, _, _, _, _, _, _, _, _, _, _, _, _, _, _, _, g, line + 1, rfl, hl1, hall, T, by omega, hTS, HT.out, hown2, hB⟩, ?_⟩
          simp [intOf]
          omega
      case d2 =>
        intro x1 x2 x3 cc kl ya yb w1 cnt1 hkey hlk hRv hat hrg1 hlt hg1 hs1 hen
        have hhas := has_true_of_atKey hat
        obtain ⟨k, hk, rfl⟩ := (hsetT.2.2.2 _).1 hhas
        have hnk := nutLaw.inj (nutKey' (hsetT.2.2.1 k hk)) hkey
        simp at hnk
        obtain ⟨rfl, rfl, rfl⟩ := hnk
        have hB1 : Below w.heap.size w w1 := hB.grown hg1 hB.size (fun q hq => by cases hq; omega)
        have own1 := hown.kept hg1 (.inr (by simp [Value.ownBlock]; omega))
        have hok := hsetT.2.2.1 k hk
        have gl1 : g < w1.heap.size := by have := hrg.lt; omega
        obtain ⟨kx, ky, kz⟩ := k
        simp only at hen hkey
        obtain ⟨v, hv⟩ : ∃ v : Int, v = ((S.length - T.length : Nat) : Int) := ⟨_, rfl⟩
        have hv0 : 0 ≤ v := by omega
        have hv1 : v ≤ 1000 := by omega
        have hTp : 0 < T.length := List.length_pos_of_mem hk
        have a0 : (w1.alloc (.cells #[.int .i64 kx, .int .i64 ky, .int .i64 kz] 87)).cell? ⟨g, line, none⟩ = some (.int .i64 v) := by
          rw [World.cell?_alloc_lt _ _ _ gl1, own1.cellAt line (by omega), hv]
          simp [intCells, length_sumsTo, hline]
        have f0 := (own1.alloc (.cells #[.int .i64 kx, .int .i64 ky, .int .i64 kz] 87)).frozenAt line
        have hrgA := hrg1.alloc (.cells #[.int .i64 kx, .int .i64 ky, .int .i64 kz] 87)
        have hBA : Below w.heap.size w (w1.alloc (.cells #[.int .i64 kx, .int .i64 ky, .int .i64 kz] 87)) := hB1.alloc (by have := hB1.size; omega) _
        have HV := Lib.hid hv
        by_cases hm : lineOf d (kx, ky, kz) = line
        · have hc : ((lineOf d (kx, ky, kz) : Int) == (line : Int)) = true := by simp [hm]
          have HM := Lib.hid hm
          have st := (own1.alloc (.cells #[.int .i64 kx, .int .i64 ky, .int .i64 kz] 87)).stored line (.int .i64 (v + 1))
          rw [set_intCells, List.set_set] at st
          have hrgB := hrgA.kept st.2 (by simp; omega) (by simp; omega)
          have hBB : Below w.heap.size w ((w1.alloc (.cells #[.int .i64 kx, .int .i64 ky, .int .i64 kz] 87)).setCell ⟨g, line, none⟩ (.int .i64 (v + 1))) := hBA.setCell (show w.heap.size ≤ g by omega) _
          have HST := Lib.hid st.1
          have hdel := hsetT.del (hrg.owns.tidy nutLaw) hk
          have HREL : Hid (∀ (w2 : World) (cnt2 : Nat), w2.ranges Try.prog 87 (plainElem Try.prog 4) w.heap.size r S.length (D1.del (lit3 (kx, ky, kz))) (fun z => (left z && !z.sameKey (lit3 (kx, ky, kz))) && !z.sameKey (lit3 (kx, ky, kz))) cnt2 → ((w1.alloc (.cells #[.int .i64 kx, .int .i64 ky, .int .i64 kz] 87)).setCell ⟨g, line, none⟩ (.int .i64 (v + 1))).mapTurned w2 w.heap.size → LNI ss W n N d w g line r S w2) := by
            intro w2 cnt2 hrg2 hturn
            have ln := List.length_erase_of_mem hk
            refine ⟨_, cnt2, _, T.erase (kx, ky, kz), hrg2, hdel, fun k' h => t1 k' (List.mem_of_mem_erase h), ?_, ?_, by omega, ?_, hBB.grown hturn.grown (by have := hBB.size; omega) (fun q hq => by cases hq; exact Nat.le_refl _)⟩
            · intro k' hk' hn'
              by_cases e : k' = (kx, ky, kz)
              · rw [e]; exact HM.out
              · exact t2 k' hk' (fun h => hn' ((List.mem_erase_of_ne e).2 h))
            · intro k' hk' hl'
              have hkT := List.mem_of_mem_erase hk'
              have hne : k' ≠ (kx, ky, kz) := fun e => by
                subst e
                exact absurd hk' (List.Nodup.not_mem_erase hsetT.1)
              have hs : (lit3 k').sameKey (lit3 (kx, ky, kz)) = false := sameKey_ne (fun e => hne (lit3_inj (hsetT.2.2.1 k' hkT) (hsetT.2.2.1 _ hk) e))
              simp only [t3 k' hkT hl', hs]
              rfl
            · have e2 : ((S.length - (T.erase (kx, ky, kz)).length : Nat) : Int) = v + 1 := by have := HV.out; omega
              rw [e2]
              exact HST.out.kept hturn.grown (.inr (by simp [Value.ownBlock]; omega))
          clear hm hhas hat hRv hown hrg hset hmem hrg0 hown0 own1 hrgA hrg1 hB1 hBA st hv hdel hsetT t1 t2 t3
          cases d
          all_goals
            simp only [lineOf, if_true, Bool.false_eq_true, if_false] at hc
            go_wp2_with (at_delete; refine wpList_delete_ranges _ rfl _ _ 83 87 rfl 4 nutLaw Try.underlying83 (plainElem Try.prog 4) w.heap.size r S.length D1 _ cnt1 rfl hrgB _ _ rfl hkey ?_; intro w2 cnt2 hrg2 hle hturn)
            go_roundw
            case rel => first | exact HREL.out w2 cnt2 hrg2 hturn | ((repeat apply Exists.intro); exact ⟨HREL.out w2 cnt2 hrg2 hturn, rfl⟩)
            case measure => rw [hrg2.left_eq, LE.out]; omega
        · have hc : ((lineOf d (kx, ky, kz) : Int) == (line : Int)) = false := by simp; omega
          have HREL : Hid (LNI ss W n N d w g line r S (w1.alloc (.cells #[.int .i64 kx, .int .i64 ky, .int .i64 kz] 87))) := by
            refine ⟨_, cnt1, D1, T, hrgA, hsetT, t1, t2, ?_, tl, own1.alloc _, hBA⟩
            intro k' hk' hl'
            have hne : k' ≠ (kx, ky, kz) := fun e => hm (by rw [← e]; exact hl')
            have hs : (lit3 k').sameKey (lit3 (kx, ky, kz)) = false := sameKey_ne (fun e => hne (lit3_inj (hsetT.2.2.1 k' hk') (hsetT.2.2.1 _ hk) e))
            simp only [t3 k' hk' hl', hs]
            rfl
          have hle := hrgA.left_eq
          have HLE := Lib.hid hle
          clear hm hhas hat hRv hown hrg hset hmem hrg0 hown0 own1 hrgA hrg1 hB1 hBA hv hsetT t1 t2 t3 a0 f0 hle
          cases d
          all_goals
            simp only [lineOf, if_true, Bool.false_eq_true, if_false] at hc
            go_wp2
            go_roundw
            case rel => exact HREL.out
            case measure => rw [HLE.out, LE.out]; omega

theorem count_row (ss : List ByteArray) (y m i : Nat) : ((rowN ss y m).filter fun k => decide (lineOf true k = i)).length = if i < m then nutV ss y i else 0 := by
  induction m with
  | zero => simp [rowN]
  | succ m ih =>
    rw [rowN_succ, List.filter_append, List.length_append, ih]
    by_cases h : i = m
    · subst h
      have : ((cellN i y (nutV ss y i)).filter fun k => decide (lineOf true k = i)) = cellN i y (nutV ss y i) := by
        rw [List.filter_eq_self]
        intro k hk
        rw [mem_cellN] at hk
        simp [lineOf, hk.1]
      rw [this, if_neg (by omega), if_pos (by omega)]
      simp [cellN]
    · have : ((cellN m y (nutV ss y m)).filter fun k => decide (lineOf true k = i)) = [] := by
        rw [List.filter_eq_nil_iff]
        intro k hk
        rw [mem_cellN] at hk
        simp [lineOf, hk.1]
        omega
      rw [this]
      by_cases h2 : i < m
      · rw [if_pos h2, if_pos (by omega)]; rfl
      · rw [if_neg h2, if_neg (by omega)]; rfl
theorem length_rowN (ss : List ByteArray) (y m : Nat) : (rowN ss y m).length = rs (nutV ss y) 0 m := by
  induction m with
  | zero => rfl
  | succ m ih =>
    rw [rowN_succ, List.length_append, ih]
    simp [cellN, rs]
theorem count_true (ss : List ByteArray) (W n i : Nat) (hi : i < W) : cntL ss W n true i = rect ss i 0 1 n := by
  unfold cntL rect
  induction n with
  | zero => rfl
  | succ n ih =>
    rw [allN_succ, List.filter_append, List.length_append, ih, count_row, if_pos hi]
    simp [rs]
theorem count_false (ss : List ByteArray) (W n i : Nat) : cntL ss W n false i = if i < n then rect ss 0 i W 1 else 0 := by
  unfold cntL rect
  induction n with
  | zero => rfl
  | succ n ih =>
    rw [allN_succ, List.filter_append, List.length_append, ih]
    by_cases h : i = n
    · subst h
      have : ((rowN ss i W).filter fun k => decide (lineOf false k = i)) = rowN ss i W := by
        rw [List.filter_eq_self]
        intro k hk
        rw [mem_rowN] at hk
        simp [lineOf, hk.2.1]
      rw [this, if_neg (by omega), if_pos (by omega), length_rowN]
      simp [rs]
    · have : ((rowN ss n W).filter fun k => decide (lineOf false k = i)) = [] := by
        rw [List.filter_eq_nil_iff]
        intro k hk
        rw [mem_rowN] at hk
        simp [lineOf, hk.2.1]
        omega
      rw [this]
      by_cases h2 : i < n
      · rw [if_pos h2, if_pos (by omega)]; rfl
      · rw [if_neg h2, if_neg (by omega)]; rfl

/-- the nuts of each column, or of each row -/
def linesL (ss : List ByteArray) (W n : Nat) (d : Bool) : List Int := if d then (List.range W).map fun i => (rect ss i 0 1 n : Int) else (List.range n).map fun i => (rect ss 0 i W 1 : Int)
theorem sums_lines (ss : List ByteArray) (W n : Nat) (d : Bool) : sumsTo ss W n (if d then W else n) d (if d then W else n) = linesL ss W n d := by
  cases d
  · apply List.map_congr_left
    intro i hi
    simp at hi
    rw [if_pos (by simpa using hi), count_false, if_pos hi]
  · apply List.map_congr_left
    intro i hi
    simp at hi
    rw [if_pos (by simpa using hi), count_true _ _ _ _ hi]
theorem length_linesL (ss : List ByteArray) (W n : Nat) (d : Bool) : (linesL ss W n d).length = if d then W else n := by cases d <;> simp [linesL]

theorem lineNuts_lines (A : Option Addr) (n c W : Nat) (ss : List ByteArray) (d : Bool) (w : World) (hr : Rd w 1 A n (strCells ss)) (hb : NB ss W n) :
    Calls Try.prog 52 #[.slice A n c, .bool d] w fun e w' => ∃ A' n' c', e = .returned (.slice A' n' c') ∧ w'.ownsRow w.heap.size 3 1 (.slice A' n' c') n' (intCells (linesL ss W n d)) ∧ Below w.heap.size w w' := by
  rw [← sums_lines]
  exact lineNuts_any A n c W ss d w hr hb

end Go.Proofs.Ytbjjpndhfgfedaa
