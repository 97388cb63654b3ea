/-
  Contracts: slices.Clone, Sort and Compact at int in the words of owned rows; SumsReached of the program. Conditions: none.
-/
import Derived.Test.YtkijcpbjjbhnhaaSumW
import Derived.Test.YtkijcpbjjbhnhaaHlvE
import Derived.Test.YtkijcpbjjbhnhaaLibS
import Derived.Sort.OwnSortedInts
import Derived.Lib.OwnBridge
namespace Go.Proofs.Ytkijcpbjjbhnhaa
open Go.RowKit
set_option linter.unusedVariables false
set_option linter.unusedSimpArgs false

theorem cloneO (g n c : Nat) (S : List Int) (B : Nat) (w : World) (ho : w.ownsRow B 3 1 (.slice (some ⟨g, 0, none⟩) n c) n (intCells S)) (h1 : 1 ≤ n) (hn : n ≤ 1000000) :
    Calls Try.prog 51 #[.slice (some ⟨g, 0, none⟩) n c] w fun e w' => ∃ g' c', e = .returned (.slice (some ⟨g', 0, none⟩) n c') ∧ w.heap.size ≤ g' ∧ w'.ownsRow w.heap.size 3 1 (.slice (some ⟨g', 0, none⟩) n c') n (intCells S) ∧ Below w.heap.size w w' := by
  have hl : S.length = n := by have := ho.1; rw [length_intCells] at this; omega
  refine (Try.slices_Clone_int g 0 n c S w (by omega) (by omega) (fun j hj => ?_)).mono ?_
  · rw [Nat.zero_add, ho.cellAt j (by omega)]
    simp [intCells, List.getD, hj]
  · rintro e w' ⟨v', rfl, own, hne, hb⟩
    rw [List.take_of_length_le (by omega)] at own
    obtain ⟨A', c', rfl⟩ := own_slice own
    obtain ⟨g', rfl, hg1, _⟩ := own_at own h1
    exact ⟨g', c', rfl, hg1, own, hb⟩

theorem sortO (g n c : Nat) (S : List Int) (B : Nat) (w : World) (ho : w.ownsRow B 3 1 (.slice (some ⟨g, 0, none⟩) n c) n (intCells S)) (hn : n ≤ 1000000) :
    Calls Try.prog 52 #[.slice (some ⟨g, 0, none⟩) n c] w fun e w' => e = .returned (.tuple #[]) ∧ w'.ownsRow B 3 1 (.slice (some ⟨g, 0, none⟩) n c) n (intCells (srt S)) ∧ w.grownBy w' (some g) := by
  obtain ⟨g2, c2, e, hbg, hgl, hncap, hcm, hlen, hH⟩ := Lib.holds_of_ownsRow (enc := Value.int .i64) ho (by simp)
  cases e
  subst hlen
  refine (Try.slices_Sort_int g 0 c S w hH hgl (by omega)).mono ?_
  rintro e w' ⟨rfl, nn, os, rfl⟩
  refine ⟨rfl, ?_, grownBy_sortedI _⟩
  rcases ho.2 with ⟨h0, _⟩ | ⟨g', cap', cur, hv, hbase, hb, h1, h2, h3, h4⟩
  · cases h0
  · cases hv
    exact ownsRow_sortedI (length_srt S) hbase hb h1 h2 h3

theorem compactO (g n c : Nat) (S : List Int) (B : Nat) (w : World) (ho : w.ownsRow B 3 1 (.slice (some ⟨g, 0, none⟩) n c) n (intCells S)) (hn : n ≤ 1000000) :
    Calls Try.prog 53 #[.slice (some ⟨g, 0, none⟩) n c] w fun e w' => e = .returned (.slice (some ⟨g, 0, none⟩) (Lib.compact S).length c) ∧ w'.ownsRow B 3 1 (.slice (some ⟨g, 0, none⟩) (Lib.compact S).length c) (Lib.compact S).length (intCells (Lib.compact S)) ∧ w.grownBy w' (some g) := by
  obtain ⟨g2, c2, e, hbg, hgl, hncap, hcm, hlen, hH⟩ := Lib.holds_of_ownsRow (enc := Value.int .i64) ho (by simp)
  cases e
  subst hlen
  have hle := Lib.compact_length_le S
  refine (Try.slices_Compact_int g 0 c S w hH (by omega) hncap).mono ?_
  rintro e w' ⟨rfl, q, rfl⟩
  have h := Lib.ownsRow_putRow (q := q) (k := (Lib.compact S).length) (ys := Lib.compact S ++ List.replicate (S.length - (Lib.compact S).length) 0) ho (by simp; omega) (by omega)
  rw [List.take_left] at h
  refine ⟨rfl, h, rfl, rfl, rfl, by simp [Go.Sort.putRow, Go.Sort.mapBlock, Go.Sort.ahead], fun k hk hne => ?_⟩
  have : g ≠ k := fun e => hne (by rw [e])
  simp [Go.Sort.putRow, Go.Sort.mapBlock, Go.Sort.ahead, Array.getElem?_modify, this]

set_option maxRecDepth 100000 in
set_option maxHeartbeats 4000000 in
theorem sumsReached_any (A : Option Addr) (n c : Nat) (L : List Int) (w : World) (hr : Rd w 1 A n (intCells L)) (hn : n ≤ 4000000000) :
    Calls Try.prog 28 #[.slice A n c] w fun e w' => ∃ A' n' c', e = .returned (.tuple #[.slice A' n' c', .bool (wtB L)]) ∧ w'.ownsRow w.heap.size 3 1 (.slice A' n' c') n' (intCells (srR L)) ∧ Below w.heap.size w w' := by
  have HA := Lib.hid (areWeights_any A n c L w hr hn)
  cases h : wtB L
  · rw [h] at HA
    rw [srR_no h]
    go_enter Try.func28, Try.ntmps28
    go_wp2_with fail
    refine HA.out.mono ?_; rintro e w1 ⟨rfl, hb1⟩
    go_wp2
    go_ret2
    exact ⟨none, 0, 0, rfl, World.ownsRow_nil _ _ _ _, hb1⟩
  · rw [h] at HA
    rw [srR_yes h]
    obtain ⟨i0, hi, hz0, hz1, hz2⟩ := info_parts int_info
    obtain ⟨hl1, hl12, hz⟩ := wtB_true h
    have hll := hr.ilen
    have HS := Lib.hid (sP_srL (fun z hz' => (hz z hz').1))
    have HSP := Lib.hid (sP_spec L)
    have HT : Hid (∀ (k : Nat) (hk : k < L.length), sP (L.take (k + 1)) = nextS (sP (L.take k)) L[k]) := fun k hk => sP_take hk
    have HBD : Hid (∀ k, k ≤ L.length → ∀ z ∈ sP (L.take k), 0 ≤ z ∧ z ≤ 12000) := fun k hk z hz' => by
      have h1 := (((sP_spec L k hk).2.1 z).1 hz')
      have h2 := rch_bound (fun z hz' => (hz z hz').1) k hk z h1
      have h3 := sumW_bound (l := L.take k) (fun z hz' => by have := hz z (List.mem_of_mem_take hz'); omega)
      rw [List.length_take] at h3
      omega
    have HXB : Hid (∀ (k : Nat) (hk : k < L.length), 1 ≤ L[k] ∧ L[k] ≤ 1000) := fun k hk => hz _ (List.getElem_mem hk)
    have HLL := Lib.hid hll
    obtain ⟨b, o, rfl, hbl, hcs⟩ := hr.2 (by omega)
    have HC : Hid (∀ (k : Nat) (hk : k < L.length), w.cell? ⟨b, o + k, none⟩ = some (.int .i64 L[k])) := fun k hk => hcs k _ (by simp [intCells, hk])
    have hn12 : n ≤ 12 := by omega
    have hn1 : 1 ≤ n := by omega
    clear hz hll hcs hr hn hl1 hl12 h
    go_enter Try.func28, Try.ntmps28
    go_wp2_with fail
    refine HA.out.mono ?_; rintro e w1 ⟨rfl, hb1⟩
    have ho0 := own_newH w1 3 1 1 #[.int .i64 0] rfl (by omega) (B := w.heap.size) hb1.size
    have hbb : Below w.heap.size w (w1.alloc (.cells #[.int .i64 0] 3)) := hb1.alloc hb1.size _
    have HO0 := Lib.hid ho0
    have HBB := Lib.hid hbb
    clear ho0 hbb hb1 HA
    go_wp2
    go_loopw [4, 15] (fun v i wr => ∃ (k g c m : Nat), k ≤ n ∧ i = .int .i64 (k : Int) ∧ v = .slice (some ⟨g, 0, none⟩) m c ∧ Hid (wr.ownsRow w.heap.size 3 1 (.slice (some ⟨g, 0, none⟩) m c) m (intCells (sP (L.take k)))) ∧ Hid (Below w.heap.size w wr)) (fun _ i _ => n - (intOf i).toNat)
    case atStart => exact ⟨0, w1.heap.size, 1, 1, Nat.zero_le _, rfl, rfl, HO0.out, HBB.out⟩
    case round =>
      clear HO0 HBB
      obtain ⟨k, g, c1, m, hk, rfl, rfl, hown, hB⟩ := hrel
      by_cases hlt : k < n
      · have hkL : k < L.length := by rw [HLL.out]; exact hlt
        have e1 : wr.cell? ⟨b, o + k, none⟩ = some (.int .i64 L[k]) := (hB.out.cell (p := ⟨b, o + k, none⟩) hbl).trans (HC.out k hkL)
        have hm : (sP (L.take k)).length = m := by have := hown.out.1; rw [length_intCells] at this; omega
        have hsp := HSP.out k (by omega)
        have hp : (2 : Nat) ^ k ≤ 2 ^ 12 := Nat.pow_le_pow_right (by omega) (by omega)
        have hm1 : 1 ≤ m := by omega
        have hm2 : m ≤ 4096 := by omega
        have hxb := HXB.out k hkL
        have HTk := Lib.hid (HT.out k hkL)
        have HBk := Lib.hid (HBD.out k (by omega))
        have HM := Lib.hid hm
        clear hm hsp hp
        generalize sP (L.take k) = S at *
        generalize L[k] = x at *
        have HCL := Lib.hid (cloneO g m c1 S w.heap.size wr hown.out hm1 (by omega))
        have hsz0 := hB.out.size
        go_wp2_with fail
        refine HCL.out.mono ?_; rintro e w2 ⟨g2, c2, rfl, hg2, own2, hb2⟩
        have hgw : g < wr.heap.size := (hown.out.lt g rfl).2
        have hsz2 := hb2.size
        have HO2 := Lib.hid (own_base own2 hsz0)
        have HOA := Lib.hid (own_later hown.out hb2 (Nat.le_refl _))
        have HB2 := Lib.hid (hB.out.trans (hb2.mono hsz0))
        clear own2 hb2 HCL
        go_wp2
        go_loopw [4, 22] (fun v i wr => ∃ (j g' c' : Nat), j ≤ m ∧ i = .int .i64 (j : Int) ∧ v = .slice (some ⟨g', 0, none⟩) (m + j) c' ∧ Hid (g' ≠ g2) ∧ Hid (wr.ownsRow w.heap.size 3 1 (.slice (some ⟨g', 0, none⟩) (m + j) c') (m + j) (intCells (S ++ (S.take j).map fun s => s + x))) ∧ Hid (wr.ownsRow w.heap.size 3 1 (.slice (some ⟨g2, 0, none⟩) m c2) m (intCells S)) ∧ Hid (Below w.heap.size w wr)) (fun _ i _ => m - (intOf i).toNat)
        case atStart => exact ⟨0, g, c1, Nat.zero_le _, rfl, rfl, (by simp only [Hid]; omega), by simpa [Hid] using HOA.out, HO2.out, HB2.out⟩
        case round =>
          clear HOA HO2 HB2
          obtain ⟨j, g3, c3, hj, rfl, rfl, hne, hoa, hob, hB3⟩ := hrel
          by_cases hlt2 : j < m
          · have hjS : j < S.length := by rw [HM.out]; exact hlt2
            have e2 : wr.cell? ⟨g2, j, none⟩ = some (.int .i64 S[j]) := by rw [hob.out.cellAt j (by omega)]; simp [intCells, hjS]
            have hsb := HBk.out _ (List.getElem_mem hjS)
            have HTJ : Hid (S.take (j + 1) = S.take j ++ [S[j]]) := List.take_succ_eq_append_getElem hjS
            generalize S[j] = y at *
            have hwr : IntKind.i64.wrap (y + x) = y + x := IntWalk.i64_in _ (by omega)
            have hc3 : m + j + 1 ≤ maxLen := by simp only [maxLen]; omega
            have hszq := hB3.out.size
            have hnw := new1 wr 3 (.int .i64 (y + x))
            have HOAA := Lib.hid (hoa.out.alloc (.cells #[.int .i64 (y + x)] 3))
            go_wp2_with (at_builtin; refine wpList_append_own_at _ rfl (.tmp 26) (.tmp 30) 22 rfl w.heap.size 3 i0 (.int .i64 0) 1 8 Try.underlying22 hi hz0 hz1 hz2 rfl (by decide) _ _ _ rfl HOAA.out ⟨wr.heap.size, 0, none⟩ 1 1 [.int .i64 (y + x)] rfl rfl hnw (int_oneCell [_]) hc3 (by omega) (by simp; omega) ?_)
            intro v' w4 hown' hgrow _ hat
            obtain ⟨A4, c4, rfl⟩ := own_slice hown'
            obtain ⟨g4, rfl, hg41, hg42⟩ := own_at hown' (by omega)
            have HN4 : Hid (g4 ≠ g2) := by
              intro hh
              rcases hat with e | e
              · cases e; exact hne.out hh
              · have h1 := (hob.out.lt g2 rfl).2
                rw [show (Value.slice (some ⟨g4, 0, none⟩) (m + j + 1) c4).ownBlock = some g4 from rfl] at e
                simp only [Option.some.injEq, World.size_alloc] at e
                omega
            have HO4 : Hid (w4.ownsRow w.heap.size 3 1 (.slice (some ⟨g4, 0, none⟩) (m + (j + 1)) c4) (m + (j + 1)) (intCells (S ++ (S.take (j + 1)).map fun s => s + x))) := by
              simp only [Hid]
              rw [HTJ.out, List.map_append, ← List.append_assoc, intCells_append, List.map_take]
              exact hown'
            have HP4 := Lib.hid ((hob.out.alloc (.cells #[.int .i64 (y + x)] 3)).kept hgrow (.inr (by intro e; injection e with e; exact hne.out e.symm)))
            have HB4 := Lib.hid (bgrow (hB3.out.alloc hszq (.cells #[.int .i64 (y + x)] 3)) HOAA.out hgrow (by simp; omega))
            clear hown' hgrow hat hoa hob hB3 HOAA hne
            go_wp2
            go_roundw
            case rel => exact ⟨j + 1, g4, c4, by omega, by go_num, rfl, HN4, HO4, HP4, HB4⟩
            case measure => simp [intOf]; omega
          · have hjm : j = m := by omega
            subst hjm
            have HOF : Hid (wr.ownsRow w.heap.size 3 1 (.slice (some ⟨g3, 0, none⟩) (j + j) c3) (j + j) (intCells (S ++ S.map fun s => s + x))) := by
              have h := hoa.out
              rw [List.take_of_length_le (by rw [HM.out]; exact Nat.le_refl _)] at h
              exact h
            have HG3 := Lib.hid ((hoa.out.lt g3 rfl).1)
            have HSO := Lib.hid (sortO g3 (j + j) c3 _ _ _ HOF.out (by omega))
            clear hoa hob hne HOF
            go_wp2_with fail
            refine HSO.out.mono ?_; rintro e w5 ⟨rfl, own5, hgr5⟩
            have HB5 := Lib.hid (hB3.out.grown hgr5 hB3.out.size (fun q hq => by cases hq; exact HG3.out))
            have HCO := Lib.hid (compactO g3 (j + j) c3 _ _ _ own5 (by omega))
            clear own5 hgr5 HSO hB3
            go_wp2_with fail
            refine HCO.out.mono ?_; rintro e w6 ⟨rfl, own6, hgr6⟩
            have HB6 := Lib.hid (HB5.out.grown hgr6 HB5.out.size (fun q hq => by cases hq; exact HG3.out))
            have HO6 : Hid (w6.ownsRow w.heap.size 3 1 (.slice (some ⟨g3, 0, none⟩) (Lib.compact (srt (S ++ S.map fun s => s + x))).length c3) (Lib.compact (srt (S ++ S.map fun s => s + x))).length (intCells (sP (L.take (k + 1))))) := by
              simp only [Hid]
              rw [HTk.out]
              exact own6
            clear own6 hgr6 HCO HB5
            go_wp2
            go_roundw
            case rel => exact ⟨k + 1, g3, c3, _, by omega, by go_num, rfl, HO6, HB6⟩
            case measure => simp [intOf]; omega
      · have hkn : k = n := by omega
        subst hkn
        have HOF : Hid (wr.ownsRow w.heap.size 3 1 (.slice (some ⟨g, 0, none⟩) m c1) m (intCells (srL L))) := by
          have h := hown.out
          rw [List.take_of_length_le (by rw [HLL.out]; exact Nat.le_refl _), HS.out] at h
          exact h
        clear hown
        go_wp2
        go_ret2
        exact ⟨_, m, c1, rfl, HOF.out, hB.out⟩
end Go.Proofs.Ytkijcpbjjbhnhaa
