/-
  Contract: nestAround of the program. Conditions: a list of at most ten good boxes.
-/
import Derived.Test.YthbbddgjphdgjabNestW
import Derived.Test.YthbbddgjphdgjabOpenI
import Derived.Test.YthbbddgjphdgjabReg
import Derived.Laws.AppendOwnNone
namespace Go.Proofs.Ythbbddgjphdgjab
open Go.RowKit
set_option linter.unusedVariables false
set_option linter.unusedSimpArgs false

theorem intN_info : (Try.prog.info? 3).map (fun i => (i.zero, i.size, i.bytes)) = some (some (.int .i64 0), 1, 8) := by kernel_rfl
theorem rd_addN {w : World} {n b o : Nat} {xs : List Int} (hr : Rd w 1 (some ⟨b, o, none⟩) n (intCells xs)) : ∀ (j : Nat) (u : Value), (intCells xs)[j]? = some u → w.cell? ((⟨b, o, none⟩ : Addr).add j) = some u := by
  intro j u hu
  have hj : j < n := by have := (List.getElem?_eq_some_iff.1 hu).1; rw [length_intCells, hr.ilen] at this; exact this
  obtain ⟨b', o', e, _, hc⟩ := hr.2 (by omega)
  simp only [Option.some.injEq, Addr.mk.injEq, and_true] at e
  obtain ⟨rfl, rfl⟩ := e
  rw [add_spotB]
  exact hc j u hu

set_option maxRecDepth 100000 in
set_option maxHeartbeats 8000000 in
theorem nestAround_any (A : Option Addr) (n c : Nat) (L : List Bx) (hg : goodL L = true) (hn : n ≤ 10) : ∀ (f : Nat) (x y z : Int) (w : World), 0 ≤ x → x ≤ 60 → 60 - x < f → f ≤ 1000 → Rd w 3 A n (boxCells L) →
    Calls Try.prog 32 #[.slice A n c, bx3 x y z] w fun e w' => ∃ A' n' c', e = .returned (.slice A' n' c') ∧ w'.ownsRow w.heap.size 3 1 (.slice A' n' c') n' (intCells (nestP f L (x, y, z))) ∧ Below w.heap.size w w'
  | 0, x, y, z, w, h0, h1, h2, _, _ => by omega
  | f + 1, x, y, z, w, h0, h1, h2, hf, hr => by
    have hl : L.length = n := by have := hr.1; rw [length_boxCells] at this; omega
    have HL := Lib.hid hl
    have HG := Lib.hid hg
    obtain ⟨i0, hi, hz0, hz1, hz2⟩ := info_parts intN_info
    have HI : Hid (∀ (a b d : Int) (wx : World), 0 ≤ a → a ≤ 60 → x < a → Rd wx 3 A n (boxCells L) → Calls Try.prog 32 #[.slice A n c, bx3 a b d] wx fun e w' => ∃ A' n' c', e = .returned (.slice A' n' c') ∧ w'.ownsRow wx.heap.size 3 1 (.slice A' n' c') n' (intCells (nestP f L (a, b, d))) ∧ Below wx.heap.size wx w') :=
      fun a b d wx p1 p2 p3 p4 => nestAround_any A n c L hg hn f a b d wx p1 p2 (by omega) (by omega) p4
    have HP : Hid (nestP (f + 1) L (x, y, z) = nestK L (x, y, z) (nestP f L) n) := by rw [Hid, nestP, hl]
    rw [HP.out]
    have HLP := Lib.hid (fun b : Bx => nestP_length f L b)
    generalize nestP f L = nx at *
    obtain ⟨W0, hW0⟩ : ∃ W0, W0 = w.alloc (.cells #[.int .i64 x, .int .i64 y, .int .i64 z] 26) := ⟨_, rfl⟩
    have c0 : W0.cell? ⟨w.heap.size, 0, none⟩ = some (.int .i64 x) := by rw [hW0]; simp [go_sem]
    have c1 : W0.cell? ⟨w.heap.size, 1, none⟩ = some (.int .i64 y) := by rw [hW0]; simp [go_sem]
    have c2 : W0.cell? ⟨w.heap.size, 2, none⟩ = some (.int .i64 z) := by rw [hW0]; simp [go_sem]
    have sz0 : W0.heap.size = w.heap.size + 1 := by rw [hW0]; simp
    have B0 : Below w.heap.size w W0 := by rw [hW0]; exact (Below.refl _ _).alloc (Nat.le_refl _) _
    have HR := Lib.hid (hr.later B0 (Nat.le_refl _))
    have HC := Lib.hid (And.intro c0 (And.intro c1 c2))
    have HB0 := Lib.hid B0
    clear hr c0 c1 c2 B0 hl hg
    go_enter Try.func32, Try.ntmps32
    go_wp2_with fail
    rw [← hW0]
    clear hW0
    go_loopw [5, 11] (fun v i wr => ∃ (k m : Nat) (A' : Option Addr) (c' : Nat), k ≤ n ∧ i = .int .i64 k ∧ v = .slice A' m c' ∧ wr.ownsRow w.heap.size 3 1 (.slice A' m c') m (intCells (nestK L (x, y, z) nx k)) ∧ Below W0.heap.size W0 wr) (fun _ i _ => n - (intOf i).toNat)
    case atStart => exact ⟨0, 0, none, 0, Nat.zero_le _, rfl, rfl, World.ownsRow_nil _ _ _ _, Below.refl _ _⟩
    case round =>
      obtain ⟨k, m, A', c', hk, rfl, rfl, hown, hB⟩ := hrel
      have sB := hB.size
      by_cases hlt : k < n
      · obtain ⟨b, o, rfl, hbl, hx, p0, p1, p2⟩ := (HR.out.later hB (Nat.le_refl _)).box hlt
        have hgd : L.getD k zBx = L[k] := by simp [List.getD, hx]
        have hgk := boxB_true (goodL_at HG.out hx)
        have HK1 := Lib.hid (nestK_no (L := L) (q := (x, y, z)) (nx := nx) (k := k))
        have HK2 := Lib.hid (nestK_more (L := L) (q := (x, y, z)) (nx := nx) (k := k))
        have HK3 := Lib.hid (nestK_short (L := L) (q := (x, y, z)) (nx := nx) (k := k))
        rw [hgd] at HK1 HK2 HK3
        have HLN := Lib.hid (HLP.out L[k])
        generalize hq : L[k] = q at *
        obtain ⟨qa, qb, qc⟩ := q
        simp only at p0 p1 p2 hgk
        have d0 := (hB.cell (p := ⟨w.heap.size, 0, none⟩) (by show w.heap.size < W0.heap.size; omega)).trans HC.out.1
        have d1 := (hB.cell (p := ⟨w.heap.size, 1, none⟩) (by show w.heap.size < W0.heap.size; omega)).trans HC.out.2.1
        have d2 := (hB.cell (p := ⟨w.heap.size, 2, none⟩) (by show w.heap.size < W0.heap.size; omega)).trans HC.out.2.2
        have hwr : w.heap.size < wr.heap.size := by omega
        have HO := Lib.hid hown
        have HB := Lib.hid hB
        have HRW := Lib.hid (HR.out.later hB (Nat.le_refl _))
        have HML : Hid ((nestK L (x, y, z) nx k).length = m) := (Rd.of_own hown).ilen
        clear hown hB hq hgd
        cases hin : intoB x y z qa qb qc
        · have HN := Lib.hid (HK1.out hin)
          go_wp2_with fail
          refine (fitsInto_any _ _ _ _ _ _ _).mono ?_; rintro e w2 ⟨rfl, hb2⟩
          have s2 := hb2.size
          simp at s2
          rw [hin]
          have B2 : Below wr.heap.size wr w2 := bcall (by simp) hb2 ((Below.refl wr.heap.size wr).alloc (Nat.le_refl _) _)
          have HB2 := Lib.hid B2
          clear hb2 B2 p0 p1 p2 d0 d1 d2
          go_wp2
          go_roundw
          case rel => exact ⟨k + 1, m, A', c', by omega, by go_num, rfl, by rw [HN.out]; exact own_later HO.out HB2.out (Nat.le_refl _), HB.out.trans (HB2.out.mono sB)⟩
          case measure => simp [intOf]; omega
        · have hxl : x < qa := by have := hin; simp only [intoB, decide_eq_true_eq] at this; exact this.1
          obtain ⟨wo, rfl⟩ : ∃ wo, wo = wr := ⟨_, rfl⟩
          go_wp2_with fail
          refine (fitsInto_any _ _ _ _ _ _ _).mono ?_; rintro e w2 ⟨rfl, hb2⟩
          have s2 := hb2.size
          simp at s2
          rw [hin]
          obtain ⟨hc2, hf2⟩ := bcell hb2
          have g0 : w2.cell? ⟨wo.heap.size, 0, none⟩ = some (.int .i64 qa) := (hc2 _ _ (by simp)).trans (by simp [go_sem])
          have g1 : w2.cell? ⟨wo.heap.size, 1, none⟩ = some (.int .i64 qb) := (hc2 _ _ (by simp)).trans (by simp [go_sem])
          have g2 : w2.cell? ⟨wo.heap.size, 2, none⟩ = some (.int .i64 qc) := (hc2 _ _ (by simp)).trans (by simp [go_sem])
          have B2 : Below wo.heap.size wo w2 := bcall (by simp) hb2 ((Below.refl wo.heap.size wo).alloc (Nat.le_refl _) _)
          have HB2 := Lib.hid B2
          have B3 : Below w2.heap.size w2 (w2.alloc (.cells #[.int .i64 k] 3)) := (Below.refl _ _).alloc (Nat.le_refl _) _
          have HR3 := Lib.hid ((HRW.out.later B2 (Nat.le_refl _)).later B3 (Nat.le_refl _))
          have HLT := Lib.hid (World.ownsRow_lit (base := w.heap.size) (e := 3) (size := 1) w2 #[.int .i64 k] 1 (by omega) (by simp [maxLen]) rfl)
          have zz : wo.heap.size < w2.heap.size := by omega
          clear hb2 hc2 hf2 B2 B3 p0 p1 p2 d0 d1 d2
          go_wp2_with fail
          refine (HI.out qa qb qc _ (by omega) (by omega) hxl HR3.out).mono ?_; rintro e w4 ⟨A2, n2, c2', rfl, own2, hb4⟩
          have s4 := hb4.size
          simp at s4
          have HN2 : Hid ((nx (qa, qb, qc)).length = n2) := (Rd.of_own own2).ilen
          have hn2 : n2 ≤ 1000 := by have h1 := HN2.out; have h2 := HLN.out; omega
          have HLT4 := Lib.hid (own_later HLT.out hb4 (Nat.le_refl _))
          have HB4 : Hid (Below wo.heap.size wo w4) := HB2.out.trans (((Below.refl w2.heap.size w2).alloc (Nat.le_refl _) (.cells #[.int .i64 k] 3)).trans (hb4.mono (by simp)) |>.mono (by omega))
          have HRR := Lib.hid (Rd.of_own own2)
          have HI2 : Hid (intCells ((k : Int) :: nx (qa, qb, qc)) = [.int .i64 (k : Int)] ++ intCells (nx (qa, qb, qc))) := rfl
          have hA2 := own2.2
          clear own2 hb4 HLT HR3 g0 g1 g2
          have hgk2 : ∀ g, (Value.slice (some ⟨w2.heap.size, 0, none⟩) 1 1).ownBlock = some g → wo.heap.size ≤ g := by intro g hg; simp [Value.ownBlock] at hg; omega
          have hb3' : wo.heap.size ≤ w4.heap.size := by omega
          have hz4 : w.heap.size ≤ w4.heap.size := by omega
          rcases hA2 with ⟨hA2, hz⟩ | ⟨g2, cap2, cur2, hA2, _⟩
          · simp only [Value.slice.injEq] at hA2
            obtain ⟨rfl, rfl, rfl⟩ := hA2
            have hnx : nx (qa, qb, qc) = [] := List.eq_nil_of_length_eq_zero HN2.out
            have HNX := Lib.hid hnx
            have HO9 : Hid (w4.ownsRow w.heap.size 3 1 (.slice (some ⟨w2.heap.size, 0, none⟩) 1 1) 1 (intCells ((k : Int) :: nx (qa, qb, qc)))) := by rw [Hid, hnx]; exact HLT4.out
            by_cases hlm : m < 1
            · have HYES := Lib.hid (HK2.out hin (by rw [HML.out, HN2.out]; exact hlm))
              have hl1 : (m : Int) < 1 := by omega
              clear hnx
              go_wp2_with (at_builtin; refine wpList_append_own_none rfl (.tmp 21) (.tmp 24) 31 rfl w.heap.size 3 i0 1 Try.underlying31 hi _ _ _ rfl HLT4.out rfl ?_)
              go_roundw
              case rel => exact ⟨k + 1, 1, some ⟨w2.heap.size, 0, none⟩, 1, by omega, by go_num, rfl, by rw [HYES.out]; exact HO9.out, HB.out.trans (HB4.out.mono sB)⟩
              case measure => simp [intOf]; omega
            · have HNO := Lib.hid (HK3.out (by rw [HML.out, HN2.out]; exact hlm))
              have hl1 : ¬ (m : Int) < 1 := by omega
              clear hnx
              go_wp2_with (at_builtin; refine wpList_append_own_none rfl (.tmp 21) (.tmp 24) 31 rfl w.heap.size 3 i0 1 Try.underlying31 hi _ _ _ rfl HLT4.out rfl ?_)
              go_roundw
              case rel => exact ⟨k + 1, m, A', c', by omega, by go_num, rfl, by rw [HNO.out]; exact own_later HO.out HB4.out (Nat.le_refl _), HB.out.trans (HB4.out.mono sB)⟩
              case measure => simp [intOf]; omega
          · simp only [Value.slice.injEq] at hA2
            obtain ⟨rfl, _, rfl⟩ := hA2
            have hc0 : (intCells (nx (qa, qb, qc))).length = n2 * 1 := by rw [length_intCells, HN2.out, Nat.mul_one]
            have hc1 := rd_addN HRR.out
            have hc3 : 1 + n2 ≤ maxLen := by simp only [maxLen]; omega
            have hc4 : (1 + n2) * 8 ≤ 140737488355328 := by omega
            go_wp2_with (at_builtin; refine wpList_append_own _ rfl (.tmp 21) (.tmp 24) 31 rfl w.heap.size 3 i0 (.int .i64 0) 1 8 Try.underlying31 hi hz0 hz1 hz2 rfl (by decide) _ _ _ rfl HLT4.out ⟨g2, 0, none⟩ n2 c2' (intCells (nx (qa, qb, qc))) rfl hc0 hc1 (int_oneCell _) hc3 hc4 hz4 ?_)
            intro v' w9 hown' hgrow _
            have hb9 := gb_new (Nat.le_refl _) HB4.out hgrow hgk2
            obtain ⟨A9, c9, rfl⟩ := own_slice hown'
            have HO9 : Hid (w9.ownsRow w.heap.size 3 1 (.slice A9 (1 + n2) c9) (1 + n2) (intCells ((k : Int) :: nx (qa, qb, qc)))) := hown'
            have HB9 := Lib.hid hb9
            clear hown' hgrow hb9 hc0 hc1 hc3 hc4
            by_cases hlm : m < n2 + 1
            · have HYES := Lib.hid (HK2.out hin (by rw [HML.out, HN2.out]; exact hlm))
              have hl1 : (m : Int) < ((1 + n2 : Nat) : Int) := by omega
              go_wp2
              go_roundw
              case rel => exact ⟨k + 1, 1 + n2, A9, c9, by omega, by go_num, rfl, by rw [HYES.out]; exact HO9.out, HB.out.trans (HB9.out.mono sB)⟩
              case measure => simp [intOf]; omega
            · have HNO := Lib.hid (HK3.out (by rw [HML.out, HN2.out]; exact hlm))
              have hl1 : ¬ (m : Int) < ((1 + n2 : Nat) : Int) := by omega
              go_wp2
              go_roundw
              case rel => exact ⟨k + 1, m, A', c', by omega, by go_num, rfl, by rw [HNO.out]; exact own_later HO.out HB9.out (Nat.le_refl _), HB.out.trans (HB9.out.mono sB)⟩
              case measure => simp [intOf]; omega
      · obtain rfl : k = n := by omega
        have HO := Lib.hid hown
        have HB := Lib.hid hB
        clear hown hB
        go_wp2
        go_ret
        exact ⟨A', m, c', rfl, HO.out, HB0.out.trans (HB.out.mono (by omega))⟩

end Go.Proofs.Ythbbddgjphdgjab
