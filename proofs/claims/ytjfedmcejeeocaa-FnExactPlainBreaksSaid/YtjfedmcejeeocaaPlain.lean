/-
  Contract: PlainBreaks of the program.
-/
import Derived.Test.YtjfedmcejeeocaaMakeO
import Derived.Laws.OwnMore
namespace Go.Proofs.Ytjfedmcejeeocaa
open Go.RowKit
set_option linter.unusedVariables false

theorem bar_neqP (a b c d : Int) (w : World) : (binOp .neq 27 (bar2 a b) (bar2 c d)).run Try.prog w = .ok (.bool (!(a == c && b == d))) w := by
  have ht : Try.prog.underlying 27 = some (.struct (Try.prog.fieldsOf 27)) := by kernel_rfl
  have hp : Try.prog.stoodInHeld 27 = false := by kernel_rfl
  rw [run_neq_struct, run_equalIn_agg _ _ _ _ _ ht hp]
  have hi := Try.underlying3
  by_cases h1 : (a == c) = true
  · by_cases h2 : (b == d) = true
    · simp [Program.fieldsOf, Try.underlying27, Op.eqFields, hi, h1, h2, go_sem]
    · have h2' : (b == d) = false := by simpa using h2
      simp [Program.fieldsOf, Try.underlying27, Op.eqFields, hi, h1, h2', go_sem]
  · have h1' : (a == c) = false := by simpa using h1
    simp [Program.fieldsOf, Try.underlying27, Op.eqFields, hi, h1', go_sem]

theorem new3 (w : World) (e : TypeId) (a b c : Value) : ∀ (j : Nat) (u : Value), [a, b, c][j]? = some u → (w.alloc (.cells #[a, b, c] e)).cell? ((⟨w.heap.size, 0, none⟩ : Addr).add j) = some u := by
  intro j u hj
  match j, hj with
  | 0, hj => simp at hj; subst hj; simp [Addr.add, go_sem]
  | 1, hj => simp at hj; subst hj; simp [Addr.add, go_sem]
  | 2, hj => simp at hj; subst hj; simp [Addr.add, go_sem]
theorem three_oneCell (a : Int) (d : Bool) (b : Int) : ∀ u ∈ [Value.int .i64 a, Value.bool d, Value.int .i64 b], u.oneCell' = true := by
  intro u hu; simp at hu; rcases hu with rfl | rfl | rfl <;> rfl
theorem brkO_info : (Try.prog.info? 43).map (fun i => (i.zero, i.size, i.bytes)) = some (some (brkO 0 false 0), 3, 24) := by kernel_rfl
theorem tripCells_snoc (l : List Brk) (a : Int) (d : Bool) (b : Int) : tripCells (l ++ [(a, d, b)]) = tripCells l ++ [.int .i64 a, .bool d, .int .i64 b] := by rw [tripCells_append]; rfl
def lenV : Value → Nat
  | .slice _ n _ => n
  | _ => 0

/-- where the run to single squares stands: pieces l from k on, breaks out -/
structure PS (B : Nat) (w wr : World) (S : Int) (R : List Brk) (k f : Nat) (Ap : Option Addr) (np cp : Nat) (l : List (Int × Int)) (Ao : Option Addr) (no co : Nat) (out : List Brk) : Prop where
  ownP : wr.ownsRow B 27 2 (.slice Ap np cp) np (pairCells l)
  ownO : wr.ownsRow B 43 3 (.slice Ao no co) no (tripCells out)
  apart : ∀ g, (Value.slice Ap np cp).ownBlock = some g → (Value.slice Ao no co).ownBlock ≠ some g
  ok : PlainOk S l
  run : out ++ plainF f k l = R
  fuel : (k : Int) + l.length + f = 2 * S + 1
  cnt : out.length + 1 = l.length
  bel : Below B w wr
theorem PS.np_eq {B : Nat} {w wr : World} {S : Int} {R : List Brk} {k f : Nat} {Ap : Option Addr} {np cp : Nat} {l : List (Int × Int)} {Ao : Option Addr} {no co : Nat} {out : List Brk} (h : PS B w wr S R k f Ap np cp l Ao no co out) : l.length = np ∧ out.length = no ∧ (np : Int) ≤ S := by
  have h1 := h.ownP.1
  have h2 := h.ownO.1
  have h3 := h.ok.len
  rw [length_pairCells] at h1
  rw [length_tripCells] at h2
  refine ⟨by omega, by omega, by omega⟩
theorem PS.skip {B : Nat} {w wr : World} {S : Int} {R : List Brk} {k f : Nat} {Ap : Option Addr} {np cp : Nat} {l : List (Int × Int)} {Ao : Option Addr} {no co : Nat} {out : List Brk} (h : PS B w wr S R k f Ap np cp l Ao no co out) (hk : k < l.length) (h1 : l[k] = (1, 1)) :
    ∃ f', PS B w wr S R (k + 1) f' Ap np cp l Ao no co out := by
  have hf := h.fuel
  have hl := h.ok.len
  obtain ⟨f', rfl⟩ : ∃ f', f = f' + 1 := ⟨f - 1, by omega⟩
  exact ⟨f', h.ownP, h.ownO, h.apart, h.ok, by rw [← plainF_skip hk h1]; exact h.run, by omega, h.cnt, h.bel⟩
/-- the run goes on by one break: what is known of the new rows -/
theorem PS.next {B : Nat} {w wr w' : World} {S : Int} {R : List Brk} {k f : Nat} {Ap Ap' : Option Addr} {np cp cp' : Nat} {l : List (Int × Int)} {Ao Ao' : Option Addr} {no co co' : Nat} {out : List Brk} (h : PS B w wr S R k f Ap np cp l Ao no co out) (hk : k < l.length) (h1 : l[k] ≠ (1, 1))
    (hP : w'.ownsRow B 27 2 (.slice Ap' (np + 1) cp') (np + 1) (pairCells (plainSet l k l[k]))) (hO : w'.ownsRow B 43 3 (.slice Ao' (no + 1) co') (no + 1) (tripCells (out ++ [((k : Int), decide (1 < (l[k]).1), (1 : Int))])))
    (ha : ∀ g, (Value.slice Ap' (np + 1) cp').ownBlock = some g → (Value.slice Ao' (no + 1) co').ownBlock ≠ some g) (hb : Below B wr w') :
    ∃ f', PS B w w' S R k f' Ap' (np + 1) cp' (plainSet l k l[k]) Ao' (no + 1) co' (out ++ [((k : Int), decide (1 < (l[k]).1), (1 : Int))]) ∧ k < (plainSet l k l[k]).length := by
  have hf := h.fuel
  have hl := h.ok.len
  have hc := h.cnt
  obtain ⟨f', rfl⟩ : ∃ f', f = f' + 1 := ⟨f - 1, by omega⟩
  refine ⟨f', ⟨hP, hO, ha, h.ok.step hk h1, ?_, ?_, ?_, h.bel.trans hb⟩, by rw [length_plainSet]; omega⟩
  · rw [List.append_assoc, List.singleton_append, ← plainF_break hk h1]; exact h.run
  · rw [length_plainSet]; omega
  · rw [length_plainSet, List.length_append]; simp; omega
theorem PS.done {B : Nat} {w wr : World} {S : Int} {R : List Brk} {k f : Nat} {Ap : Option Addr} {np cp : Nat} {l : List (Int × Int)} {Ao : Option Addr} {no co : Nat} {out : List Brk} (h : PS B w wr S R k f Ap np cp l Ao no co out) (hk : ¬ k < l.length) : out = R := by
  have := h.run
  rw [plainF_end hk, List.append_nil] at this
  exact this

set_option maxRecDepth 100000 in
set_option maxHeartbeats 4000000 in
theorem plainBreaks_yes (x y : Int) (w : World) (hB : barB x y = true) :
    Calls Try.prog 11 #[bar2 x y] w fun e w' => ∃ A n c, e = .returned (.tuple #[.slice A n c, .bool true]) ∧ w'.ownsRow w.heap.size 43 3 (.slice A n c) n (tripCells (plainR x y)) ∧ Below w.heap.size w w' := by
  obtain ⟨i0, hi, hz0, hz1, hz2⟩ := info_parts brkO_info
  obtain ⟨x1, x2, y1, y2⟩ := barB_true hB
  have hS1 : 1 * 1 ≤ x * y := Int.mul_le_mul x1 y1 (by omega) (by omega)
  have hS2 : x * y ≤ 12 * 12 := Int.mul_le_mul x2 y2 (by omega) (by omega)
  have hR : plainR x y = plainF (2 * (x * y).toNat) 0 [(x, y)] := by simp [plainR, hB]
  have HR := Lib.hid hR
  have hok : PlainOk (x * y) [(x, y)] := ⟨fun q hq => by rw [List.mem_singleton.1 hq]; exact hB, by simp [sumA]⟩
  have HOK := Lib.hid hok
  have HB := Lib.hid hB
  clear hR hok
  generalize hSS : x * y = S at *
  clear hSS
  go_enter Try.func11, Try.ntmps11
  go_wp2_with fail
  refine (isBar_any _ _ _).mono ?_; rintro e w1 ⟨rfl, hb1⟩; have s1 := hb1.size; obtain ⟨hc1, hf1⟩ := bcell hb1; have z1_w0 : w.heap.size < w1.heap.size := (by have q := s1; first | omega | (simp at q; omega))
  have bw1 : Below w.heap.size w w1 := by (repeat (first | (with_reducible exact Below.refl _ _) | (with_reducible assumption) | (with_reducible refine Below.drew ?_) | ((with_reducible refine balloc ?_ _ ?_); · (first | (simp; done) | (simp; omega) | omega)) | ((with_reducible refine bset ?_ _ ?_); · (first | (simp; done) | (simp; omega) | omega)) | (with_reducible refine bdrewN _ ?_) | ((with_reducible refine bcall ?_ (by assumption) ?_); · (first | (simp; done) | (simp; omega) | omega))))
  have c0 : w1.cell? ⟨w.heap.size, 0, none⟩ = some (.int .i64 x) := by rw [hc1 _ _ (by simp)]; simp [go_sem]
  have c1 : w1.cell? ⟨w.heap.size, 1, none⟩ = some (.int .i64 y) := by rw [hc1 _ _ (by simp)]; simp [go_sem]
  have s1b := bw1.size
  have hstart : ∃ f, PS w1.heap.size w1 (w1.alloc (.cells #[.int .i64 x, .int .i64 y] 27)) S (plainR x y) 0 f (some ⟨w1.heap.size, 0, none⟩) 1 1 [(x, y)] none 0 0 [] :=
    ⟨2 * S.toNat, World.ownsRow_lit w1 #[.int .i64 x, .int .i64 y] 1 (Nat.le_refl _) (by simp [maxLen]) rfl, World.ownsRow_nil _ _ _ _, fun g _ => by simp [Value.ownBlock], HOK.out, by rw [HR.out]; rfl, by simp; omega, rfl, (Below.refl _ _).alloc (Nat.le_refl _) _⟩
  have HST := Lib.hid hstart
  have BW1 := Lib.hid bw1
  clear hstart bw1 hc1 hf1 hb1
  go_wp2
  go_loopw [4, 5, 6] (fun o p i wr => ∃ (k f : Nat) (Ap : Option Addr) (np cp : Nat) (l : List (Int × Int)) (Ao : Option Addr) (no co : Nat) (out : List Brk), i = .int .i64 k ∧ p = .slice Ap np cp ∧ o = .slice Ao no co ∧ k ≤ np ∧ PS w1.heap.size w1 wr S (plainR x y) k f Ap np cp l Ao no co out) (fun _ _ i _ => 145 - (intOf i).toNat)
  case atStart =>
    obtain ⟨f, hf⟩ := HST.out
    exact ⟨0, f, _, 1, 1, _, none, 0, 0, [], rfl, rfl, rfl, by omega, hf⟩
  case round =>
    clear HST c0 c1
    obtain ⟨k, f, Ap, np, cp, l, Ao, no, co, out, rfl, rfl, rfl, hk, hps⟩ := hrel
    obtain ⟨e1, e2, e3⟩ := hps.np_eq
    by_cases hlt : k < np
    · have hlti : (k : Int) < (np : Int) := by omega
      have HPS := Lib.hid hps
      have HKL := Lib.hid (show k < l.length by omega)
      clear hps e1 e2 e3
      go_wp2
      go_loopw [4, 5] (fun o p wr => ∃ (f : Nat) (Ap : Option Addr) (np cp : Nat) (l : List (Int × Int)) (Ao : Option Addr) (no co : Nat) (out : List Brk), p = .slice Ap np cp ∧ o = .slice Ao no co ∧ k < l.length ∧ PS w1.heap.size w1 wr S (plainR x y) k f Ap np cp l Ao no co out) (fun _ p _ => 145 - lenV p)
      case atStart => exact ⟨f, Ap, np, cp, l, Ao, no, co, out, rfl, rfl, HKL.out, HPS.out⟩
      case round =>
        clear HPS HKL hlt hlti hk
        obtain ⟨f, Ap, np, cp, l, Ao, no, co, out, rfl, rfl, hkl, hps⟩ := hrel
        obtain ⟨e1, e2, e3⟩ := hps.np_eq
        have hkn : k < np := by omega
        have hkni : (k : Int) < (np : Int) := by omega
        obtain ⟨g, rfl, hg1, hg2⟩ := own_at hps.ownP (by omega)
        obtain ⟨b', o', eg, _, hx, py0, py1⟩ := (Rd.of_own hps.ownP).pair hkn
        simp only [Option.some.injEq, Addr.mk.injEq, and_true] at eg
        obtain ⟨rfl, rfl⟩ := eg
        simp only [Nat.zero_add] at py0 py1
        have hbq := hps.ok.bars _ (List.getElem_mem hkl)
        have sB := hps.bel.size
        by_cases hq1 : l[k] = (1, 1)
        · obtain ⟨f', hps'⟩ := hps.skip hkl hq1
          have heq : ∀ wx, (binOp .neq 27 (bar2 1 1) (bar2 1 1)).run Try.prog wx = .ok (.bool false) wx := fun wx => by rw [bar_neqP]; rfl
          rw [hq1] at py0 py1
          have HPS' := Lib.hid hps'
          clear hps hps' hq1 hbq
          go_wp2
          go_roundw
          case rel => exact ⟨k + 1, f', _, np, cp, l, Ao, no, co, out, by go_num, rfl, rfl, by omega, HPS'.out⟩
          case measure => simp [intOf]; omega
        · have HMK : Hid (∀ wx : World, wx.ownsRow w1.heap.size 27 2 (.slice (some ⟨g, 0, none⟩) np cp) np (pairCells l) → Calls Try.prog 28 #[.slice (some ⟨g, 0, none⟩) np cp, .agg #[.int .i64 k, .bool (decide (1 < (l[k]).1)), .int .i64 1]] wx fun e w' => ∃ A' c', e = .returned (.slice A' (np + 1) c') ∧ w'.ownsRow w1.heap.size 27 2 (.slice A' (np + 1) c') (np + 1) (pairCells (plainSet l k l[k])) ∧ Below w1.heap.size wx w' ∧ wx.grownBy w' (Value.slice (some ⟨g, 0, none⟩) np cp).ownBlock ∧ ((Value.slice A' (np + 1) c').ownBlock = (Value.slice (some ⟨g, 0, none⟩) np cp).ownBlock ∨ ∃ g', (Value.slice A' (np + 1) c').ownBlock = some g' ∧ wx.heap.size ≤ g')) :=
            fun wx ho => makeBreak_own (some ⟨g, 0, none⟩) np cp w1.heap.size k (decide (1 < (l[k]).1)) 1 l wx ho hkl (by omega) hbq (plain_can hbq hq1)
          have HNX := Lib.hid (fun (w' : World) (Ap' Ao' : Option Addr) (cp' co' : Nat) h1 h2 h3 h4 => hps.next (w' := w') (Ap' := Ap') (Ao' := Ao') (cp' := cp') (co' := co') hkl hq1 h1 h2 h3 h4)
          have hneq : ∀ wx, (binOp .neq 27 (bar2 (l[k]).1 (l[k]).2) (bar2 1 1)).run Try.prog wx = .ok (.bool true) wx := fun wx => by
            rw [bar_neqP]
            have : ((l[k]).1 == 1 && (l[k]).2 == 1) = false := by
              rw [Bool.and_eq_false_iff]
              by_cases h1 : (l[k]).1 = 1
              · refine .inr ?_
                simp
                intro h2
                exact hq1 (Prod.ext h1 h2)
              · exact .inl (by simpa using h1)
            rw [this]
            rfl
          have hcnt := hps.cnt
          have olt := fun q (h : (Value.slice Ao no co).ownBlock = some q) => hps.ownO.lt q h
          have hOA := (hps.ownO.alloc (.cells #[.int .i64 k, .bool (decide (1 < (l[k]).1)), .int .i64 1] 43)).alloc (.cells #[.int .i64 k, .bool (decide (1 < (l[k]).1)), .int .i64 1] 43)
          have hPA := (hps.ownP.alloc (.cells #[.int .i64 k, .bool (decide (1 < (l[k]).1)), .int .i64 1] 43)).alloc (.cells #[.int .i64 k, .bool (decide (1 < (l[k]).1)), .int .i64 1] 43)
          have hap := hps.apart g rfl
          have hbA : Below w1.heap.size wr ((wr.alloc (.cells #[.int .i64 k, .bool (decide (1 < (l[k]).1)), .int .i64 1] 43)).alloc (.cells #[.int .i64 k, .bool (decide (1 < (l[k]).1)), .int .i64 1] 43)) := ((Below.refl _ _).alloc sB _).alloc (by simp; omega) _
          generalize l[k] = q at *
          obtain ⟨u, v⟩ := q
          simp only at py0 py1
          have HPA := Lib.hid hPA
          have HBA := Lib.hid hbA
          have HAP := Lib.hid hap
          have HOL := Lib.hid olt
          have hno : no ≤ 1000 := by omega
          clear hps hq1 hbq hPA hbA hap olt
          go_wp2_with (at_builtin; refine wpList_append_own_at _ rfl (.tmp 33) (.tmp 35) 24 rfl w1.heap.size 43 i0 (brkO 0 false 0) 3 24 Try.underlying24 hi hz0 hz1 hz2 rfl (by decide) _ _ _ rfl hOA ⟨wr.heap.size + 1, 0, none⟩ 1 1 [.int .i64 k, .bool (decide (1 < u)), .int .i64 1] rfl rfl ?c1 ?c2 ?c3 ?c4 ?c5 ?_)
          case c2 => exact ⟨rfl, rfl, rfl⟩
          case c3 => simp only [maxLen]; omega
          case c4 => omega
          case c5 => first | omega | (simp; omega)
          · intro v' w2 hown' hgrow _ hat
            obtain ⟨A', c', rfl⟩ := own_slice hown'
            have hob : some wr.heap.size ≠ (Value.slice Ao no co).ownBlock := fun e => by have := (HOL.out _ e.symm).2; omega
            have k0 := hgrow.cell (a := ⟨wr.heap.size, 0, none⟩) (v := .int .i64 k) (by rw [World.cell?_alloc_lt _ _ _ (by simp)]; simp [go_sem]) hob
            have k1 := hgrow.cell (a := ⟨wr.heap.size, 1, none⟩) (v := .bool (decide (1 < u))) (by rw [World.cell?_alloc_lt _ _ _ (by simp)]; simp [go_sem]) hob
            have k2 := hgrow.cell (a := ⟨wr.heap.size, 2, none⟩) (v := .int .i64 1) (by rw [World.cell?_alloc_lt _ _ _ (by simp)]; simp [go_sem]) hob
            have hP2 : w2.ownsRow w1.heap.size 27 2 (.slice (some ⟨g, 0, none⟩) np cp) np (pairCells l) := HPA.out.kept hgrow (.inr fun e => HAP.out (e.symm.trans rfl))
            have hs2 := hgrow.size
            simp at hs2
            have ha2 : ∀ q, (Value.slice A' (no + 1) c').ownBlock = some q → q ≠ g := by
              intro q hq e
              subst e
              rcases hat with h | h
              · exact HAP.out (h.symm.trans hq)
              · rw [h] at hq
                simp at hq
                omega
            have hb2 : Below w1.heap.size wr w2 := HBA.out.grown hgrow (by simp; omega) (fun q hq => (HOL.out q hq).1)
            have HO2 := Lib.hid hown'
            have HA2 := Lib.hid ha2
            have HB2 := Lib.hid hb2
            have hmk := HMK.out w2 hP2
            have HMK2 := Lib.hid hmk
            clear hown' hgrow hat ha2 hb2 hP2 hob hmk HMK
            go_wp2_with fail
            refine HMK2.out.mono ?_; rintro e w5 ⟨A5, c5, rfl, ownP5, hb5, hg5, hat5⟩
            have o2lt := fun q (h : (Value.slice A' (no + 1) c').ownBlock = some q) => (HO2.out.lt q h).2
            have ownO5 := HO2.out.kept hg5 (by
              rcases hv : (Value.slice A' (no + 1) c').ownBlock with _ | q
              · exact .inl rfl
              · exact .inr fun e => by have h1 := HA2.out q hv; simp [Value.ownBlock] at e; exact h1 e)
            have ha5 : ∀ q, (Value.slice A5 (np + 1) c5).ownBlock = some q → (Value.slice A' (no + 1) c').ownBlock ≠ some q := by
              intro q hq e
              rcases hat5 with h | ⟨g', h, hle⟩
              · rw [h] at hq
                have h1 : g = q := by simpa [Value.ownBlock] using hq
                exact HA2.out q e h1.symm
              · rw [h] at hq
                have h1 : g' = q := by simpa using hq
                have h2 := o2lt q e
                omega
            rw [← tripCells_snoc] at ownO5
            obtain ⟨f', hps', hk'⟩ := HNX.out w5 A5 A' c5 c' ownP5 ownO5 ha5 (HB2.out.trans hb5)
            have HPS' := Lib.hid hps'
            have HK' := Lib.hid hk'
            clear hps' hk' ha5 ownO5 ownP5 hb5 hg5 hat5 o2lt k0 k1 k2 HO2 HA2 HB2 HMK2 HNX
            go_wp2
            go_roundw
            case rel => exact ⟨f', A5, np + 1, c5, _, A', no + 1, c', _, rfl, rfl, HK'.out, HPS'.out⟩
            case measure => simp [lenV]; omega
    · have hke : k = np := by omega
      have hfin := hps.done (by omega)
      have hown := hps.ownO
      rw [hfin] at hown
      have hbel := hps.bel
      clear hps hfin
      go_wp2
      go_ret2
      exact ⟨Ao, no, co, rfl, own_base hown s1b, BW1.out.trans (hbel.mono s1b)⟩

set_option maxRecDepth 100000 in
set_option maxHeartbeats 1000000 in
theorem plainBreaks_any (x y : Int) (w : World) :
    Calls Try.prog 11 #[bar2 x y] w fun e w' => ∃ A n c, e = .returned (.tuple #[.slice A n c, .bool (barB x y)]) ∧ w'.ownsRow w.heap.size 43 3 (.slice A n c) n (tripCells (plainR x y)) ∧ Below w.heap.size w w' := by
  cases hB : barB x y
  · rw [show plainR x y = [] by simp [plainR, hB]]
    go_enter Try.func11, Try.ntmps11
    go_wp2_with fail
    refine (isBar_any _ _ _).mono ?_; rintro e w1 ⟨rfl, hb1⟩; have s1 := hb1.size; obtain ⟨hc1, hf1⟩ := bcell hb1; have z1_w0 : w.heap.size < w1.heap.size := (by have q := s1; first | omega | (simp at q; omega))
    go_wp2
    go_ret2
    exact ⟨none, 0, 0, rfl, World.ownsRow_nil _ _ _ _, by (repeat (first | (with_reducible exact Below.refl _ _) | (with_reducible assumption) | (with_reducible refine Below.drew ?_) | ((with_reducible refine balloc ?_ _ ?_); · (first | (simp; done) | (simp; omega) | omega)) | ((with_reducible refine bset ?_ _ ?_); · (first | (simp; done) | (simp; omega) | omega)) | (with_reducible refine bdrewN _ ?_) | ((with_reducible refine bcall ?_ (by assumption) ?_); · (first | (simp; done) | (simp; omega) | omega))))⟩
  · exact plainBreaks_yes x y w hB

end Go.Proofs.Ytjfedmcejeeocaa
