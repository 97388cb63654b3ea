/-
  Contracts: all stacks in order, of the program (addStacks, stacksOf). Conditions: none.
-/
import Derived.Test.YtkijcpbjjbhnhabStkL
import Derived.Test.YtkijcpbjjbhnhabSSW
import Derived.Maps.AppendAt
import Derived.ArgAppend
namespace Go.Proofs.Ytkijcpbjjbhnhab
open Go.RowKit
set_option linter.unusedVariables false
set_option linter.unusedSimpArgs false

def rowL (L : List (List Int)) : Nat → List Int := fun i => L.getD i []
theorem rowL_snoc {L : List (List Int)} {n : Nat} (h : L.length = n) (s : List Int) (i : Nat) (hi : i < n + 1) : (if i = n then s else rowL L i) = rowL (L ++ [s]) i := by
  unfold rowL
  simp only [List.getD_eq_getElem?_getD]
  by_cases e : i = n
  · subst e; rw [if_pos rfl, ← h]; simp
  · rw [if_neg e, List.getElem?_append_left (by omega)]
theorem cntK_le : ∀ {f : Nat}, f ≤ 7 → cntK f ≤ 960800 := by
  intro f hf
  rcases (show f = 0 ∨ f = 1 ∨ f = 2 ∨ f = 3 ∨ f = 4 ∨ f = 5 ∨ f = 6 ∨ f = 7 by omega) with rfl | rfl | rfl | rfl | rfl | rfl | rfl | rfl <;> decide
theorem stkK_len {S : List Sb} (hS : S.length ≤ 7) (f : Nat) (s : List Int) : ∀ k, (stkK S f s k).length ≤ 1 + k * cntK f := by
  intro k
  induction k with
  | zero => simp [stkK_zero]
  | succ k ihk =>
    rw [stkK_succ, List.length_append, Nat.succ_mul]
    have := stkD_len S hS f (s ++ [(k : Int)])
    split
    · omega
    · simp; omega
theorem stk_fuel {S : List Sb} {s : List Int} {f : Nat} {k : Int} (h : S.length ≤ s.length + f) (hk : stk S (s ++ [k]) = true) : ∃ f', f = f' + 1 := by
  cases f with
  | zero => rw [stk_full (by omega)] at hk; cases hk
  | succ f => exact ⟨f, rfl⟩

theorem stkD_any {S : List Sb} {s : List Int} {f : Nat} (h : S.length ≤ s.length + f) : stkK S (f - 1) s S.length = stkD S f s := by
  cases f with
  | zero => rw [stkK_full (by omega)]; rfl
  | succ f => rfl
theorem own_holds {w : World} {B e n c : Nat} {A : Option Addr} {xs : List Value} (h : w.ownsRow B e 1 (.slice A n c) n xs) : ∀ b, A = some b → ∀ (j : Nat) (u : Value), xs[j]? = some u → w.cell? (b.add j) = some u := by
  intro b hb j u hu
  subst hb
  rcases h.2 with ⟨h', h0⟩ | ⟨g, cap, cur, h', _, _, _, _, _, _⟩
  · simp at h'
  · simp only [Value.slice.injEq, Option.some.injEq] at h'
    obtain ⟨rfl, _, rfl⟩ := h'
    have hj : j < n * 1 := by have := (List.getElem?_eq_some_iff.1 hu).1; have := h.1; omega
    rw [addr_add, Nat.zero_add, h.cellAt j hj, hu]
theorem own_cap {w : World} {B e z n c : Nat} {A : Option Addr} {xs : List Value} (h : w.ownsRow B e z (.slice A n c) n xs) (hn : 0 < n) : n ≤ c ∧ c ≤ maxLen := by
  rcases h.2 with ⟨h', h0⟩ | ⟨g, cap, cur, h', hb, hg, hnc, hcm, hcs, htake⟩
  · omega
  · simp only [Value.slice.injEq] at h'
    obtain ⟨rfl, _, rfl⟩ := h'
    exact ⟨hnc, hcm⟩

/-- what stands after so many slabs have been tried -/
structure AtK (w0 w : World) (L : List (List Int)) (s : List Int) (As : Option Addr) (cs : Nat) (r0 : Option Nat) (D : List (List Int)) (A' : Option Addr) (n' c' : Nat) (wr : World) : Prop where
  ss : OwnSS wr w0.heap.size (.slice A' n' c') n' (rowL (L ++ D))
  len : (L ++ D).length = n'
  own : wr.ownsRow w0.heap.size 3 1 (.slice As s.length cs) s.length (intCells s)
  gb : GB w wr r0 (.slice A' n' c')
  bel : Below w0.heap.size w0 wr
theorem AtK.below {w0 w : World} {L : List (List Int)} {s : List Int} {As : Option Addr} {cs : Nat} {r0 : Option Nat} {D : List (List Int)} {A' : Option Addr} {n' c' : Nat} {wr wx : World} (h : AtK w0 w L s As cs r0 D A' n' c' wr) (hb : Below wr.heap.size wr wx) : AtK w0 w L s As cs r0 D A' n' c' wx :=
  ⟨h.ss.later hb (Nat.le_refl _), h.len, own_later h.own hb (Nat.le_refl _), h.gb.below hb, h.bel.trans (hb.mono h.bel.size)⟩
theorem AtK.more {w0 w : World} {L : List (List Int)} {s : List Int} {As : Option Addr} {cs : Nat} {r0 : Option Nat} {D E : List (List Int)} {A' A2 : Option Addr} {n' c' n2 c2 : Nat} {wr wx : World} (h : AtK w0 w L s As cs r0 D A' n' c' wr)
    (h1 : ((L ++ D) ++ E).length = n2) (h2 : OwnSS wx w0.heap.size (.slice A2 n2 c2) n2 (rowL ((L ++ D) ++ E))) (h3 : GB wr wx (Value.slice A' n' c').ownBlock (.slice A2 n2 c2)) (h4 : Below w0.heap.size w0 wx) : AtK w0 w L s As cs r0 (D ++ E) A2 n2 c2 wx := by
  obtain ⟨A, C, ho⟩ := h.ss
  exact ⟨by rw [← List.append_assoc]; exact h2, by rw [← List.append_assoc]; exact h1, h3.keeps h.own (own_types h.own ho.top (fun q => tt_ne q.symm)), h.gb.trans h3, h4⟩

set_option maxRecDepth 100000 in
set_option maxHeartbeats 8000000 in
theorem addStacks_any (S : List Sb) (hS : slB S = true) (bs bg : Nat) (w0 : World) (hT0 : TstAt w0 bs bg S) : ∀ (f n c0 cs T : Nat) (Ad As : Option Addr) (L : List (List Int)) (s : List Int) (w : World),
    S.length ≤ s.length + f → L.length = n → n + cntK f ≤ 1000000 → s.length ≤ 7 → (s.length = 0 → As = none ∧ cs = 0) → s.length ≤ cs →
    OwnIn w w0.heap.size T (.slice Ad n c0) n (rowL L) → w0.heap.size ≤ T → Below w0.heap.size w0 w → w.ownsRow T 3 1 (.slice As s.length cs) s.length (intCells s) →
    Calls Try.prog 43 #[.slice Ad n c0, .slice As s.length cs, .int .i64 (S.length : Int), .func (.func 40) #[] #[.pointer (some ⟨bs, 0, none⟩), .pointer (some ⟨bg, 0, none⟩)]] w
      fun e w' => ∃ A' n' c', e = .returned (.slice A' n' c') ∧ (L ++ stkD S f s).length = n' ∧ OwnSS w' w0.heap.size (.slice A' n' c') n' (rowL (L ++ stkD S f s)) ∧ GB w w' (Value.slice Ad n c0).ownBlock (.slice A' n' c') ∧ Below w0.heap.size w0 w' := by
  have hl7 := slB_len hS
  have HSB := Lib.hid hS
  have HT0 := Lib.hid hT0
  obtain ⟨i1, hi1, hy0, hy1, hy2⟩ := info_parts ints_info
  obtain ⟨i0, hi, hz0, hz1, hz2⟩ := info_parts int_info
  intro f
  induction f using Nat.strongRecOn with
  | ind f ih =>
    intro n c0 cs T Ad As L s w hf hLn hcn hm7 hm0 hmc hL hBT hB0 hs
    have hcK : 1 ≤ cntK f := by cases f <;> simp [cntK] <;> omega
    obtain ⟨A, C, ho, hlt⟩ := hL
    have hbz : Below w.heap.size w (w.alloc (.cells #[.slice As s.length cs] 23)) := (Below.refl _ _).alloc (Nat.le_refl _) _
    have htop := own_later ho.top hbz (Nat.le_refl _)
    have hsz := own_later hs hbz (Nat.le_refl _)
    have hnw := new1 w 23 (.slice As s.length cs)
    have hc3 : n + 1 ≤ maxLen := by simp only [maxLen]; omega
    have hbase : w0.heap.size ≤ (w.alloc (.cells #[.slice As s.length cs] 23)).heap.size := Nat.le_trans hB0.size hbz.size
    have HO := Lib.hid ho
    have HLT := Lib.hid hlt
    have HBZ := Lib.hid hbz
    have HTOP := Lib.hid htop
    have HSZ := Lib.hid hsz
    have HB0 := Lib.hid hB0
    have HLN := Lib.hid hLn
    have HF := Lib.hid (stkD_any hf)
    have HIH := Lib.hid ih
    have HM0 := Lib.hid hm0
    clear ho hlt hbz htop hsz hB0 hs hLn ih hm0
    generalize hns : S.length = ns at *
    have HNS := Lib.hid hns
    clear hns
    generalize hmq : s.length = m at *
    have HM := Lib.hid hmq
    clear hmq
    go_enter Try.func43, Try.ntmps43
    go_wp2_with (at_builtin; refine wpList_append_own_at _ rfl (.tmp 12) (.tmp 14) 51 rfl w0.heap.size 23 i1 (.slice none 0 0) 1 24 Try.underlying51 hi1 hy0 hy1 hy2 rfl (by decide) _ _ _ rfl HTOP.out ⟨w.heap.size, 0, none⟩ 1 1 [.slice As m cs] rfl rfl hnw (by intro u hu; simp at hu; subst hu; rfl) hc3 (by omega) hbase ?_)
    intro v1 w1 hown1 hgrow1 _ hat1
    obtain ⟨A2, c2, rfl⟩ := own_slice hown1
    have hK : AtK w0 w L s As cs (Value.slice Ad n c0).ownBlock [s] A2 (n + 1) c2 w1 := by
      have hm := HM.out
      subst hm
      have h1 := OwnAC.push HO.out HBZ.out HSZ.out hBT HLT.out hgrow1 hown1
      refine ⟨h1.congr (fun i hi => rowL_snoc HLN.out s i hi), by simp [HLN.out], ?_, ?_, ?_⟩
      · exact (own_base (HSZ.out) hBT).kept hgrow1 (own_types HSZ.out HTOP.out (fun q => tt_ne q.symm))
      · refine ((GB.refl w (.slice Ad n c0)).below HBZ.out).trans ⟨hgrow1, ?_⟩
        rcases hat1 with e | e
        · exact .inl e
        · exact .inr (fun g hg => by rw [e] at hg; cases hg; simp)
      · exact gb_new (Nat.le_refl _) (HB0.out.trans (HBZ.out.mono HB0.out.size)) hgrow1 (fun g hg => (HO.out.top.lt g hg).1)
    have HK := Lib.hid hK
    clear hK hown1 hgrow1 hat1 HO HLT HBZ HTOP HSZ hnw hc3 hbase
    go_wp2
    go_loopw [0, 19] (fun v i wr => ∃ (k : Nat) (A' : Option Addr) (n' c' : Nat), k ≤ ns ∧ i = .int .i64 (k : Int) ∧ v = .slice A' n' c' ∧ AtK w0 w L s As cs (Value.slice Ad n c0).ownBlock (stkK S (f - 1) s k) A' n' c' wr) (fun _ i _ => ns - (intOf i).toNat)
    case atStart => exact ⟨0, A2, n + 1, c2, Nat.zero_le _, rfl, rfl, HK.out⟩
    case round =>
      clear HK
      obtain ⟨k, A', n', c', hk, rfl, rfl, hK⟩ := hrel
      by_cases hlt : k < ns
      · have HK := Lib.hid hK
        have hrows := own_holds (own_later hK.own ((Below.refl wr.heap.size wr).alloc (Nat.le_refl _) (.cells #[.int .i64 (k : Int)] 3)) (Nat.le_refl _))
        have HROWS := Lib.hid hrows
        have hnone : As = none → m = 0 ∧ m = 0 := fun e => by
          have h0 : s.length = 0 := by
            rcases hK.own.2 with ⟨h', h0⟩ | ⟨g, cap, cur, h', _⟩
            · exact h0
            · simp [e] at h'
          have := HM.out
          omega
        have hlo : (intCells s).length = m * 1 := by rw [length_intCells, HM.out, Nat.mul_one]
        have HE := Lib.hid (stkK_succ S (f - 1) s k)
        have hb1 : m + 1 ≤ maxLen := by simp only [maxLen]; omega
        clear hK hrows
        go_wp2_with (at_builtin; refine wpList_append_grows _ rfl (.tmp 25) (.tmp 27) 23 rfl 3 i0 (.int .i64 0) 1 8 Try.underlying23 hi hz0 hz1 hz2 rfl (by decide) As m m (intCells s) rfl hnone hlo HROWS.out ⟨wr.heap.size, 0, none⟩ 1 1 [.int .i64 (k : Int)] rfl rfl (new1 _ _ _) (int_oneCell [_]) (by omega) hb1 (by omega) ?_)
        intro v3 w3 hown3 hgrow3
        obtain ⟨A3, c3, rfl⟩ := own_slice hown3
        have hb3 : Below wr.heap.size wr w3 := gb_new (Nat.le_refl _) ((Below.refl wr.heap.size wr).alloc (Nat.le_refl _) (.cells #[.int .i64 (k : Int)] 3)) hgrow3 (fun g hg => by cases hg)
        have hc3 := own_cap hown3 (by omega)
        have hown3' : w3.ownsRow wr.heap.size 3 1 (.slice A3 (m + 1) c3) (m + 1) (intCells (s ++ [(k : Int)])) := by
          rw [intCells_append]; exact own_base hown3 (by simp)
        have HOWN3 := Lib.hid hown3'
        have HB3 := Lib.hid hb3
        have HTE := Lib.hid (tester_any A3 (m + 1) c3 (s ++ [(k : Int)]) bs bg S w3 HSB.out (Rd.of_own hown3') (by omega) hc3.1 hc3.2 (HT0.out.later (HK.out.bel.trans (hb3.mono HK.out.bel.size)) (Nat.le_refl _)))
        clear hown3 hgrow3 hown3' hb3 hnone hlo hb1
        cases hst : stk S (s ++ [(k : Int)])
        · rw [hst] at HTE HE
          go_wp2_with fail
          refine HTE.out.mono ?_; rintro e w4 ⟨rfl, hb4⟩
          have HK2 := Lib.hid (show AtK w0 w L s As cs (Value.slice Ad n c0).ownBlock (stkK S (f - 1) s (k + 1)) A' n' c' w4 by
            rw [HE.out]; simp only [Bool.false_eq_true, if_false, List.append_nil]; exact (HK.out.below HB3.out).below hb4)
          clear hb4 HE
          go_wp2
          go_roundw
          case rel => exact ⟨k + 1, A', n', c', by omega, by go_num, rfl, HK2.out⟩
          case measure => simp [intOf]; omega
        · rw [hst] at HTE HE
          go_wp2_with fail
          refine HTE.out.mono ?_; rintro e w4 ⟨rfl, hb4⟩
          obtain ⟨f1, hf1⟩ := stk_fuel (S := S) (s := s) (f := f) (by rw [HNS.out, HM.out]; exact hf) hst
          have hsl : (s ++ [(k : Int)]).length = m + 1 := by rw [List.length_append, HM.out]; rfl
          have hs7 : m + 1 ≤ ns := by have h := stk_len hst; rw [hsl, HNS.out] at h; exact h
          have hK4 := (HK.out.below HB3.out).below hb4
          have hlenD := stkK_len (S := S) (by rw [HNS.out]; exact hl7.2) (f - 1) s k
          have hcf : cntK f = 1 + 7 * cntK f1 := by rw [hf1]; rfl
          have hf11 : f - 1 = f1 := by omega
          have hkc : k * cntK f1 ≤ 6 * cntK f1 := Nat.mul_le_mul_right _ (by omega)
          have hn' : n' = n + (stkK S (f - 1) s k).length := by rw [← HK.out.len, List.length_append, HLN.out]
          rw [hf11] at hlenD
          rw [hf11] at hn'
          have hrec := HIH.out f1 (by omega) n' c' c3 wr.heap.size A' A3 (L ++ stkK S (f - 1) s k) (s ++ [(k : Int)]) w4 (by rw [hsl]; omega) HK.out.len (by omega) (by rw [hsl]; omega) (by rw [hsl]; omega) (by rw [hsl]; exact hc3.1)
            (((OwnIn.of HK.out.ss).later HB3.out (Nat.le_refl _)).later hb4 (Nat.le_refl _)) HK.out.bel.size hK4.bel (by rw [hsl]; exact own_later HOWN3.out hb4 (Nat.le_refl _))
          rw [hsl] at hrec
          have HREC := Lib.hid hrec
          have HK4 := Lib.hid hK4
          have HF11 := Lib.hid hf11
          clear hrec hK4 hf11 hf1 hcf hn' hlenD hkc hs7 hsl hb4
          go_wp2_with fail
          refine HREC.out.mono ?_; rintro e w5 ⟨A5, n5, c5, rfl, hlen5, hss5, hgb5, hb5⟩
          have HK2 := Lib.hid (show AtK w0 w L s As cs (Value.slice Ad n c0).ownBlock (stkK S (f - 1) s (k + 1)) A5 n5 c5 w5 by
            rw [HE.out]
            simp only [if_true]
            have e := HF11.out
            rw [← e] at hlen5 hss5
            exact HK4.out.more hlen5 hss5 hgb5 hb5)
          clear hlen5 hss5 hgb5 hb5 HE HREC HK4
          go_wp2
          go_roundw
          case rel => exact ⟨k + 1, A5, n5, c5, by omega, by go_num, rfl, HK2.out⟩
          case measure => simp [intOf]; omega
      · have hkn : k = ns := by omega
        have HR := Lib.hid (show AtK w0 w L s As cs (Value.slice Ad n c0).ownBlock (stkD S f s) A' n' c' wr by
          have h := hK
          rw [hkn, HF.out] at h; exact h)
        clear hK
        go_wp2
        go_ret
        exact ⟨A', n', c', rfl, HR.out.len, HR.out.ss, HR.out.gb, HR.out.bel⟩

/-- all stacks, in order -/
def allD (S : List Sb) : List (List Int) := stkD S S.length []
theorem allD_len {S : List Sb} (hS : slB S = true) : (allD S).length ≤ 960800 := by
  have h := slB_len hS
  exact Nat.le_trans (stkD_len S h.2 S.length []) (cntK_le h.2)
set_option maxRecDepth 100000 in
set_option maxHeartbeats 2000000 in
theorem stacksOf_any (A : Option Addr) (n c : Nat) (S : List Sb) (w : World) (hS : slB S = true) (hr : Rd w 2 A n (pairCells S)) :
    Calls Try.prog 33 #[.slice A n c] w fun e w' => ∃ A' n' c', e = .returned (.slice A' n' c') ∧ (allD S).length = n' ∧ OwnSS w' w.heap.size (.slice A' n' c') n' (rowL (allD S)) ∧ Below w.heap.size w w' := by
  have hll : S.length = n := by have := hr.1; rw [length_pairCells] at this; omega
  have hl7 := slB_len hS
  have HS := Lib.hid hS
  have HL := Lib.hid hll
  have hn7 : n ≤ 7 := by omega
  clear hS hll hl7
  go_enter Try.func33, Try.ntmps33
  go_wp2_with fail
  refine (stackTester_any A n c S _ hr hn7).mono ?_; rintro e w1 ⟨bs, bg, rfl, hT, hb1⟩
  have hrec := addStacks_any S HS.out bs bg w1 hT S.length 0 0 0 w1.heap.size none none [] [] w1 (by simp) rfl (by have := cntK_le (f := S.length) (by rw [HL.out]; exact hn7); omega) (by simp) (fun _ => ⟨rfl, rfl⟩) (by simp) (OwnIn.of (OwnSS.nil _ _ _)) (Nat.le_refl _) (Below.refl _ _) (World.ownsRow_nil _ _ _ _)
  rw [List.nil_append] at hrec
  have HD : Hid (stkD S S.length [] = allD S) := rfl
  rw [HD.out, HL.out] at hrec
  have HREC := Lib.hid hrec
  clear hrec hT
  go_wp2_with fail
  refine HREC.out.mono ?_; rintro e w2 ⟨A', n', c', rfl, hlen, hss, _, hb2⟩
  have HSS := Lib.hid hss
  have HLEN := Lib.hid hlen
  have s1 := hb1.size
  have BB := Lib.hid (hb1.trans (hb2.mono s1))
  clear hss hlen hb1 hb2 HREC
  go_wp2
  go_ret
  exact ⟨A', n', c', rfl, HLEN.out, HSS.out.base s1, BB.out⟩

end Go.Proofs.Ytkijcpbjjbhnhab
