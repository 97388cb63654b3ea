/-
  Contract: all halves in order, of the program (addHalves). Conditions: none.
-/
import Derived.Test.YtkijcpbjjbhnhaaHlvW
import Derived.Test.YtkijcpbjjbhnhaaStkD
namespace Go.Proofs.Ytkijcpbjjbhnhaa
open Go.RowKit
set_option linter.unusedVariables false
set_option linter.unusedSimpArgs false

set_option maxRecDepth 100000 in
set_option maxHeartbeats 8000000 in
theorem addHalves_any (w0 : World) (N : Nat) (hN : N ≤ 12) : ∀ (d i mm n c0 cs T : Nat) (Ad As : Option Addr) (L : List (List Int)) (s : List Int) (w : World),
    i + d = N → L.length = n → n + 2 ^ d ≤ 1000000 → s.length = mm + 1 → mm + 1 ≤ i → s[mm]? = some ((i : Int) - 1) → mm + 1 ≤ cs →
    OwnIn w w0.heap.size T (.slice Ad n c0) n (rowL L) → w0.heap.size ≤ T → Below w0.heap.size w0 w → w.ownsRow T 3 1 (.slice As (mm + 1) cs) (mm + 1) (intCells s) →
    Calls Try.prog 71 #[.slice Ad n c0, .slice As (mm + 1) cs, .int .i64 (N : Int)] w
      fun e w' => ∃ A' n' c', e = .returned (.slice A' n' c') ∧ (L ++ extE d i s).length = n' ∧ OwnSS w' w0.heap.size (.slice A' n' c') n' (rowL (L ++ extE d i s)) ∧ GB w w' (Value.slice Ad n c0).ownBlock (.slice A' n' c') ∧ Below w0.heap.size w0 w' := by
  obtain ⟨i1, hi1, hy0, hy1, hy2⟩ := info_parts ints_info
  obtain ⟨i0, hi, hz0, hz1, hz2⟩ := info_parts int_info
  intro d
  induction d using Nat.strongRecOn with
  | ind d ih =>
    intro i mm n c0 cs T Ad As L s w hd hLn hcn hsm hmi hlast hmc hL hBT hB0 hs
    have hp1 : 1 ≤ 2 ^ d := Nat.one_le_two_pow
    obtain ⟨A, C, ho, hlt⟩ := hL
    have hbz : Below w.heap.size w (w.alloc (.cells #[.slice As (mm + 1) cs] 22)) := (Below.refl _ _).alloc (Nat.le_refl _) _
    have htop := own_later ho.top hbz (Nat.le_refl _)
    have hsz := own_later hs hbz (Nat.le_refl _)
    have hnw := new1 w 22 (.slice As (mm + 1) cs)
    have hc3 : n + 1 ≤ maxLen := by simp only [maxLen]; omega
    have hbase : w0.heap.size ≤ (w.alloc (.cells #[.slice As (mm + 1) cs] 22)).heap.size := Nat.le_trans hB0.size hbz.size
    have HO := Lib.hid ho
    have HLT := Lib.hid hlt
    have HBZ := Lib.hid hbz
    have HTOP := Lib.hid htop
    have HSZ := Lib.hid hsz
    have HB0 := Lib.hid hB0
    have HLN := Lib.hid hLn
    have HIH := Lib.hid ih
    have HM := Lib.hid hsm
    have HD := Lib.hid hd
    have HLAST := Lib.hid hlast
    have hiN : i ≤ N := by omega
    have hi1' : 1 ≤ i := by omega
    clear ho hlt hbz htop hsz hB0 hs hLn ih hsm hd hlast
    go_enter Try.func71, Try.ntmps71
    go_wp2_with (at_builtin; refine wpList_append_own_at _ rfl (.tmp 9) (.tmp 11) 50 rfl w0.heap.size 22 i1 (.slice none 0 0) 1 24 Try.underlying50 hi1 hy0 hy1 hy2 rfl (by decide) _ _ _ rfl HTOP.out ⟨w.heap.size, 0, none⟩ 1 1 [.slice As (mm + 1) cs] rfl rfl hnw (by intro u hu; simp at hu; subst hu; rfl) hc3 (by omega) hbase ?_)
    intro v1 w1 hown1 hgrow1 _ hat1
    obtain ⟨A2, c2, rfl⟩ := own_slice hown1
    have hK : AtK w0 w L s As cs (Value.slice Ad n c0).ownBlock [s] A2 (n + 1) c2 w1 := by
      have hm := HM.out
      have hown1' := hown1
      have h2 := HSZ.out
      rw [← hm] at hown1' h2
      have h1 := OwnAC.push HO.out (by have := HBZ.out; rw [← hm] at this; exact this) h2 hBT HLT.out (by have := hgrow1; rw [← hm] at this; exact this) hown1'
      refine ⟨h1.congr (fun i hi => rowL_snoc HLN.out s i hi), by simp [HLN.out], ?_, ?_, ?_⟩
      · rw [hm]; exact (own_base (HSZ.out) hBT).kept hgrow1 (own_types HSZ.out HTOP.out (fun q => tt_ne q.symm))
      · refine ((GB.refl w (.slice Ad n c0)).below HBZ.out).trans ⟨hgrow1, ?_⟩
        rcases hat1 with e | e
        · exact .inl e
        · exact .inr (fun g hg => by rw [e] at hg; cases hg; simp)
      · exact gb_new (Nat.le_refl _) (HB0.out.trans (HBZ.out.mono HB0.out.size)) hgrow1 (fun g hg => (HO.out.top.lt g hg).1)
    have HK := Lib.hid hK
    have hrow1 : Rd w1 1 As (mm + 1) (intCells s) := by have h := Rd.of_own hK.own; rw [HM.out] at h; exact h
    obtain ⟨b1, o1, rfl, hb1l, hx1, p1⟩ := hrow1.num (show mm < mm + 1 by omega)
    have hval : s[mm] = (i : Int) - 1 := by have h := HLAST.out; rw [List.getElem?_eq_getElem hx1] at h; injection h
    rw [hval] at p1
    have hin : ((mm : Int) < (mm : Int) + 1) = True := by simp; omega
    clear hK hown1 hgrow1 hat1 HO HLT HBZ HTOP HSZ hnw hc3 hbase hrow1 hval hx1
    go_wp2
    go_loopw [0, 8] (fun v j wr => ∃ (k : Nat) (A' : Option Addr) (n' c' : Nat) (K : List (List Int)), i ≤ k ∧ k ≤ N ∧ j = .int .i64 (k : Int) ∧ v = .slice A' n' c' ∧ AtK w0 w L s (some ⟨b1, o1, none⟩) cs (Value.slice Ad n c0).ownBlock K A' n' c' wr ∧ Hid (K ++ (extE (N - k) k s).tail = extE d i s)) (fun _ j _ => N - (intOf j).toNat)
    case atStart => exact ⟨i, A2, n + 1, c2, [s], Nat.le_refl _, hiN, by (first | rfl | (congr 1; omega) | go_num), rfl, HK.out, by have h := HD.out; rw [show N - i = d by omega]; exact (extE_head d i s).symm⟩
    case round =>
      clear HK p1
      obtain ⟨k, A', n', c', K, hik, hkN, rfl, rfl, hK, hE⟩ := hrel
      by_cases hlt : k < N
      · have HK := Lib.hid hK
        have hrows := own_holds (own_later hK.own ((Below.refl wr.heap.size wr).alloc (Nat.le_refl _) (.cells #[.int .i64 (k : Int)] 3)) (Nat.le_refl _))
        have HROWS := Lib.hid hrows
        have hnone : (some ⟨b1, o1, none⟩ : Option Addr) = none → mm + 1 = 0 ∧ mm + 1 = 0 := fun e => by cases e
        have hlo : (intCells s).length = (mm + 1) * 1 := by rw [length_intCells, HM.out, Nat.mul_one]
        have hb1' : mm + 1 + 1 ≤ maxLen := by simp only [maxLen]; omega
        have hlenE : K.length + (2 ^ (N - k) - 1) = 2 ^ d := by
          have h := congrArg List.length hE.out
          rw [List.length_append, List.length_tail, extE_len, extE_len] at h
          exact h
        have hlen' : n' = n + K.length := by rw [← hK.len, List.length_append, HLN.out]
        have hNk : N - k = (N - k - 1) + 1 := by omega
        have hp2 : 2 ^ (N - k) = 2 * 2 ^ (N - k - 1) := by rw [hNk, Nat.pow_succ]; simp; omega
        have hp3 : 1 ≤ 2 ^ (N - k - 1) := Nat.one_le_two_pow
        have hbound : n' + 2 ^ (N - (k + 1)) ≤ 1000000 := by rw [show N - (k + 1) = N - k - 1 by omega]; omega
        have HBOUND := Lib.hid hbound
        have hE2 : (K ++ extE (N - (k + 1)) (k + 1) (s ++ [(k : Int)])) ++ (extE (N - (k + 1)) (k + 1) s).tail = extE d i s := by
          rw [← hE.out, hNk, extE_tail, List.append_assoc]
          rfl
        have HE2 := Lib.hid hE2
        clear hK hrows hlenE hlen' hNk hp2 hp3 hE2 hbound
        go_wp2_with (at_builtin; refine wpList_append_grows _ rfl (.tmp 30) (.tmp 32) 22 rfl 3 i0 (.int .i64 0) 1 8 Try.underlying22 hi hz0 hz1 hz2 rfl (by decide) (some ⟨b1, o1, none⟩) (mm + 1) (mm + 1) (intCells s) rfl hnone hlo HROWS.out ⟨wr.heap.size, 0, none⟩ 1 1 [.int .i64 (k : Int)] rfl rfl (new1 _ _ _) (int_oneCell [_]) (by omega) hb1' (by omega) ?_)
        intro v3 w3 hown3 hgrow3
        obtain ⟨A3, c3, rfl⟩ := own_slice hown3
        have hb3 : Below wr.heap.size wr w3 := gb_new (Nat.le_refl _) ((Below.refl wr.heap.size wr).alloc (Nat.le_refl _) (.cells #[.int .i64 (k : Int)] 3)) hgrow3 (fun g hg => by cases hg)
        have hc3 := own_cap hown3 (by omega)
        have hown3' : w3.ownsRow wr.heap.size 3 1 (.slice A3 (mm + 1 + 1) c3) (mm + 1 + 1) (intCells (s ++ [(k : Int)])) := by
          rw [intCells_append]; exact own_base hown3 (by simp)
        have hK3 := HK.out.below hb3
        have hrec := HIH.out (N - (k + 1)) (by have := HD.out; omega) (k + 1) (mm + 1) n' c' c3 wr.heap.size A' A3 (L ++ K) (s ++ [(k : Int)]) w3 (by omega) HK.out.len HBOUND.out (by rw [List.length_append, HM.out]; rfl) (by omega)
          (by rw [List.getElem?_append_right (by rw [HM.out]; omega), HM.out]; simp) hc3.1
          ((OwnIn.of HK.out.ss).later hb3 (Nat.le_refl _)) HK.out.bel.size hK3.bel hown3'
        have HREC := Lib.hid hrec
        have HK3 := Lib.hid hK3
        clear hrec hK3 hown3 hgrow3 hown3' hb3 hnone hlo hb1'
        go_wp2_with fail
        refine HREC.out.mono ?_; rintro e w5 ⟨A5, n5, c5, rfl, hlen5, hss5, hgb5, hb5⟩
        have HK2 := Lib.hid (HK3.out.more hlen5 hss5 hgb5 hb5)
        clear hlen5 hss5 hgb5 hb5 HREC HK3
        go_wp2
        go_roundw
        case rel => exact ⟨k + 1, A5, n5, c5, _, by omega, by omega, by go_num, rfl, HK2.out, HE2.out⟩
        case measure => simp [intOf]; omega
      · have hkn : k = N := by omega
        have HR := Lib.hid (show AtK w0 w L s (some ⟨b1, o1, none⟩) cs (Value.slice Ad n c0).ownBlock (extE d i s) A' n' c' wr by
          have h := hK
          have e := hE.out
          rw [show N - k = 0 by omega] at e
          rw [← e, show (extE 0 k s).tail = [] from rfl, List.append_nil]; exact h)
        clear hK
        go_wp2
        go_ret
        exact ⟨A', n', c', rfl, HR.out.len, HR.out.ss, HR.out.gb, HR.out.bel⟩

end Go.Proofs.Ytkijcpbjjbhnhaa
