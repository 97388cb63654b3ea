/-
  Contracts: the evenest halves of the model (skHalves). Conditions: none.
-/
import Derived.Test.YtkijcpbjjbhnhaaHlvF
import Derived.Test.YtkijcpbjjbhnhaaHlvT
import Derived.WalkSmall
namespace Go.Proofs.Ytkijcpbjjbhnhaa
open Go.RowKit
set_option linter.unusedVariables false
set_option linter.unusedSimpArgs false

theorem and1 (E : Nat) (h : E ≤ 1000000) : bits BinOp.and IntKind.i64 (E : Int) 1 = ((E % 2 : Nat) : Int) := by
  have h1 : (BitVec.ofInt 64 (E : Int) &&& BitVec.ofInt 64 1).toNat = E % 2 := by
    have e1 : (BitVec.ofInt 64 (E : Int)).toNat = E := by
      rw [BitVec.toNat_ofInt]; omega
    have e2 : (BitVec.ofInt 64 (1 : Int)).toNat = 1 := by decide
    rw [BitVec.toNat_and, e1, e2, Nat.and_one_is_mod]
  show IntKind.i64.wrap (((BitVec.ofInt 64 (E : Int) &&& BitVec.ofInt 64 1).toNat : Nat) : Int) = _
  rw [h1]
  exact IntWalk.i64_in _ (by omega)
theorem bef_trans : ∀ (a b c : List Int), bef a b = true → bef b c = true → bef a c = true := by
  intro a
  induction a with
  | nil => intro b c h1 h2; cases b <;> cases c <;> simp [bef] at *
  | cons x a ih =>
    intro b c h1 h2
    cases b with
    | nil => simp [bef] at h1
    | cons y b =>
      cases c with
      | nil => simp [bef] at h2
      | cons z c =>
        simp only [bef, Bool.or_eq_true, Bool.and_eq_true, decide_eq_true_eq] at *
        rcases h1 with h1 | ⟨rfl, h1⟩
        · rcases h2 with h2 | ⟨rfl, h2⟩
          · exact .inl (by omega)
          · exact .inl h1
        · rcases h2 with h2 | ⟨rfl, h2⟩
          · exact .inl h2
          · exact .inr ⟨rfl, ih b c h1 h2⟩
theorem evenL_first {W : List Int} {h : List Int} (h0 : 0 ≤ mnH W h) : evenL W ([] ++ [h]) = [h] ∧ bkL W ([] ++ [h]) = mnH W h := by
  have hb : bkL W [] = 0 := rfl
  constructor
  · by_cases e : mnH W h = 0
    · rw [evenL_same (by rw [hb]; exact e)]; rfl
    · exact evenL_more (by rw [hb]; omega)
  · rw [bkL_snoc, hb]; omega
theorem bk_half {W : List Int} {L : List (List Int)} (hs : 0 ≤ W.sum) : 2 * bkL W L ≤ W.sum := by
  rcases bkL_att W L 0 with e | ⟨t, ht, e⟩
  · have : bkL W L = 0 := e
    omega
  · have : bkL W L = mnH W t := e.symm
    rw [this]; unfold mnH; omega
theorem wtsum_one (W : List Int) {j : Nat} (h : j < W.length) : wtsum W [(j : Int)] = W[j] := by simp [wtsum, List.getElem?_eq_getElem h]
theorem subB_short (b : Nat) : ∀ k, (subB k b).length ≤ k := by
  intro k
  unfold subB
  rw [List.length_map]
  exact Nat.le_trans (List.length_filter_le _ _) (by simp)

/-- what stands after so many halves by their bits -/
structure BiSt (w0 : World) (W : List Int) (n k : Nat) (L : Int) (A' : Option Addr) (n' c' : Nat) (F : List Int) (wr : World) : Prop where
  least : (k = 0 ∧ L = -1) ∨ (0 < k ∧ L = W.sum - 2 * bkL W (bitH n k))
  mem : k = 0 ∨ (F ∈ evenL W (bitH n k) ∧ ∀ g ∈ evenL W (bitH n k), bef g F = false)
  own : wr.ownsRow w0.heap.size 3 1 (.slice A' n' c') n' (intCells F)
  bel : Below w0.heap.size w0 wr

set_option maxRecDepth 100000 in
set_option maxHeartbeats 8000000 in
theorem skHalves_any (A : Option Addr) (n c : Nat) (W : List Int) (w : World) (hr : Rd w 1 A n (intCells W)) (hB : wtB W = true) :
    Calls Try.prog 48 #[.slice A n c] w fun e w' => ∃ A' n' c', e = .returned (.tuple #[.int .i64 (ldR W), .slice A' n' c', .int .i64 (chR W)]) ∧ w'.ownsRow w.heap.size 3 1 (.slice A' n' c') n' (intCells (fhR W)) ∧ Below w.heap.size w w' := by
  obtain ⟨i0, hi, hz0, hz1, hz2⟩ := info_parts int_info
  obtain ⟨hW1, hW12, hW⟩ := wtB_true hB
  have hll := hr.ilen
  have HWZ : Hid (∀ z ∈ W, 0 ≤ z ∧ z ≤ 1000) := fun z hz => by have := hW z hz; omega
  have HLL := Lib.hid hll
  have hn1 : 1 ≤ n := by omega
  have hn12 : n ≤ 12 := by omega
  have HS := Lib.hid (skSum_any A n c W w hr (by omega) HWZ.out)
  have hsum := sumW_bound HWZ.out
  have hs0 : 0 ≤ W.sum ∧ W.sum ≤ 12000 := by omega
  clear hW1 hW12 hW hll hsum
  go_enter Try.func48, Try.ntmps48
  go_wp2_with fail
  refine HS.out.mono ?_; rintro e wx ⟨rfl, rfl⟩
  go_wp2
  obtain ⟨Q, hQ⟩ : ∃ Q : Nat, Q = 2 ^ n := ⟨_, rfl⟩
  obtain ⟨P, hP⟩ : ∃ P : Nat, P = 2 ^ (n - 1) := ⟨_, rfl⟩
  have hQP : Q = 2 * P := by rw [hQ, hP, show n = n - 1 + 1 by omega, Nat.pow_succ]; simp; omega
  have hP12 : P ≤ 2048 := by rw [hP]; exact Nat.le_trans (Nat.pow_le_pow_right (by omega) (show n - 1 ≤ 11 by omega)) (by decide)
  have hP1 : 1 ≤ P := by rw [hP]; exact Nat.one_le_two_pow
  have hsh : (2 : Int) ^ n = (Q : Int) := by rw [hQ]; simp
  have HP := Lib.hid hP
  have HQP := Lib.hid hQP
  have hQ4 : Q ≤ 4096 := by omega
  have HW0 : Hid (∀ z ∈ W, 0 ≤ z) := fun z hz => (HWZ.out z hz).1
  clear hQ hP hQP
  generalize hall : W.sum = all at *
  have HALL := Lib.hid hall
  clear hall
  obtain ⟨hal0, hal1⟩ := hs0
  go_loopw [6, 7, 8, 9] (fun lv cv fv bv wr => ∃ (k : Nat) (L : Int) (A' : Option Addr) (n' c' : Nat) (F : List Int), k ≤ P ∧ bv = .int .i64 ((2 * k + 1 : Nat) : Int) ∧ lv = .int .i64 L ∧ cv = .int .i64 ((evenL W (bitH n k)).length : Int) ∧ fv = .slice A' n' c' ∧ n' ≤ 12 ∧ BiSt w W n k L A' n' c' F wr) (fun _ _ _ bv _ => (2 * P + 1) - (intOf bv).toNat)
  case atStart => exact ⟨0, -1, none, 0, 0, [], Nat.zero_le _, rfl, rfl, rfl, rfl, by omega, ⟨.inl ⟨rfl, rfl⟩, .inl rfl, World.ownsRow_nil _ _ _ _, Below.refl _ _⟩⟩
  case round =>
    obtain ⟨k, L, A', n', c', F, hk, rfl, rfl, rfl, rfl, hn', hK⟩ := hrel
    by_cases hlt : k < P
    · have hkb : ((2 * k + 1 : Nat) : Int) < (Q : Int) := by have := HQP.out; omega
      have HK := Lib.hid hK
      have sB := hK.bel.size
      clear hK
      obtain ⟨b, hb⟩ : ∃ b, b = 2 * k + 1 := ⟨_, rfl⟩
      have HB := Lib.hid hb
      have hb1 : b ≤ 4096 := by omega
      rw [← hb]
      rw [← hb] at hkb
      clear hb
      have hec : (evenL W (bitH n k)).length ≤ 5000 := by
        have h1 : (evenL W (bitH n k)).length ≤ (bitH n k).length := by unfold evenL; exact List.length_filter_le _ _
        have h2 : (bitH n k).length = k := by simp [bitH]
        omega
      go_wp2
      obtain ⟨wo, hwo⟩ : ∃ wo, wo = wr := ⟨_, rfl⟩
      rw [← hwo]
      rw [← hwo] at HK sB
      clear hwo
      go_loopw [10, 11, 26] (fun sv hv iv wi => ∃ (j : Nat) (A2 : Option Addr) (n2 c2 : Nat), j ≤ n ∧ iv = .int .i64 (j : Int) ∧ sv = .int .i64 (wtsum W (subB j b)) ∧ hv = .slice A2 n2 c2 ∧ n2 ≤ j ∧ wi.ownsRow wo.heap.size 3 1 (.slice A2 n2 c2) n2 (intCells (subB j b)) ∧ Below wo.heap.size wo wi) (fun _ _ iv _ => n - (intOf iv).toNat)
      case atStart => exact ⟨0, none, 0, 0, Nat.zero_le _, rfl, by simp [wtsum, subB], rfl, by omega, World.ownsRow_nil _ _ _ _, Below.refl _ _⟩
      case round =>
        obtain ⟨j, A2, n2, c2, hj, rfl, rfl, rfl, hn2, hown, hBi⟩ := hrel
        have sBi := hBi.size
        by_cases hltj : j < n
        · obtain ⟨bb, o, rfl, hbl, hx, p1⟩ := ((hr.later HK.out.bel (Nat.le_refl _)).later hBi (Nat.le_refl _)).num hltj
          have hz := HWZ.out _ (List.getElem_mem hx)
          have hws := wtsum_sub HW0.out b j (by have := HLL.out; omega)
          have hwt : (W.take j).sum ≤ 12000 := by
            have h1 := sumW_bound (l := W.take j) (fun z hz => HWZ.out z (List.mem_of_mem_take hz))
            have h2 : (W.take j).length ≤ 12 := by rw [List.length_take]; omega
            omega
          have HSB := Lib.hid (subB_succ j b)
          have HWO := Lib.hid (wtsum_one W hx)
          obtain ⟨e, he⟩ : ∃ e, e = b / 2 ^ j := ⟨_, rfl⟩
          have hdv : ((b : Int) / 2 ^ j) = (e : Int) := by rw [he, Int.natCast_ediv]; simp
          have heb : e ≤ 4096 := by rw [he]; exact Nat.le_trans (Nat.div_le_self _ _) hb1
          have hand := and1 e (by omega)
          rw [← he] at HSB
          clear he
          generalize W[j] = z at *
          generalize hsq : wtsum W (subB j b) = s at *
          have HSQ := Lib.hid hsq
          clear hsq hx
          obtain ⟨hws1, hws2⟩ := hws
          obtain ⟨hz1', hz2'⟩ := hz
          have hws3 : s ≤ 12000 := by omega
          clear hws2 hwt
          by_cases hbit : e % 2 = 1
          · have hand1 : bits BinOp.and IntKind.i64 (e : Int) 1 = 1 := by rw [hand, hbit]; rfl
            have HS2 : Hid (subB (j + 1) b = subB j b ++ [(j : Int)]) := by simp only [Hid]; rw [HSB.out, if_pos hbit]
            have HT2 : Hid (wtsum W (subB (j + 1) b) = s + z) := by simp only [Hid]; rw [HS2.out, wtsum_app, HSQ.out, HWO.out]
            have hc3 : n2 + 1 ≤ maxLen := by simp only [maxLen]; omega
            clear hand HSB hbit HSQ HWO
            go_wp2_with (at_builtin; refine wpList_append_own _ rfl (.tmp 39) (.tmp 41) 22 rfl wo.heap.size 3 i0 (.int .i64 0) 1 8 Try.underlying22 hi hz0 hz1 hz2 rfl (by decide) _ _ _ rfl (hown.alloc _) ⟨wr.heap.size, 0, none⟩ 1 1 [.int .i64 (j : Int)] rfl rfl (new1 _ _ _) (int_oneCell [(j : Int)]) hc3 (by omega) (Nat.le_trans sBi (by simp)) ?_)
            intro v' w2 hown' hgrow _
            have hb2 := gb_new (Nat.le_refl _) (hBi.alloc sBi (.cells #[.int .i64 (j : Int)] 3)) hgrow (fun g hg => (hown.lt g hg).1)
            obtain ⟨A3, c3, rfl⟩ := own_slice hown'
            clear hgrow hown hBi hc3 hbl p1
            go_wp2
            go_roundw
            case rel => exact ⟨j + 1, A3, n2 + 1, c3, by omega, by go_num, by rw [HT2.out], rfl, by omega, by rw [HS2.out, intCells_append]; exact hown', hb2⟩
            case measure => simp [intOf]; omega
          · have hand1 : bits BinOp.and IntKind.i64 (e : Int) 1 = 0 := by rw [hand, show e % 2 = 0 by omega]; rfl
            have HS2 : Hid (subB (j + 1) b = subB j b) := by simp only [Hid]; rw [HSB.out, if_neg hbit, List.append_nil]
            have HSQ2 := HSQ
            clear hand HSB hbit HWO
            go_wp2
            go_roundw
            case rel => exact ⟨j + 1, A2, n2, c2, by omega, by go_num, by rw [HS2.out, HSQ2.out], rfl, by omega, by rw [HS2.out]; exact hown, hBi⟩
            case measure => simp [intOf]; omega
        · have hjn : j = n := by omega
          have hmem : subB n b ∈ bitH n (k + 1) := List.mem_map.2 ⟨k, List.mem_range.2 (by omega), by rw [HB.out]⟩
          have hmn := mnH_nonneg (W := W) HW0.out (k := k + 1) (subB n b) (by rw [HLL.out]; exact hmem)
          have hHB : bitH n (k + 1) = bitH n k ++ [subB n b] := by rw [bitH_succ, HB.out]
          have HHB := Lib.hid hHB
          rw [hjn] at hown
          rw [hjn]
          have hmnd : mnH W (subB n b) = min (wtsum W (subB n b)) (W.sum - wtsum W (subB n b)) := rfl
          rw [HALL.out] at hmn hmnd
          have hl0 : (subB n b).length = n2 := by have := hown.1; rw [length_intCells] at this; omega
          have HL0 := Lib.hid hl0
          generalize hh : subB n b = h at *
          generalize hsq : wtsum W h = s at *
          generalize hmq : mnH W h = mn at *
          have HMQ := Lib.hid hmq
          have HABS := Lib.hid (show max (all - 2 * s) (-(all - 2 * s)) = all - 2 * mn by rw [hmnd]; exact abs_mn all s)
          have HMND := Lib.hid hmnd
          obtain ⟨hm0, hs0, hs1⟩ := hmn
          have hbk2 := bk_half (W := W) (L := bitH n k) (by rw [HALL.out]; exact hal0)
          have hbk0 := bkL_nonneg W (bitH n k)
          rw [HALL.out] at hbk2
          have hmn2 : 2 * mn ≤ all := by rw [hmnd]; omega
          have HOWN := Lib.hid hown
          have HBI := Lib.hid (HK.out.bel.trans (hBi.mono sB))
          have HFO := Lib.hid (own_later HK.out.own hBi (Nat.le_refl _))
          have hRdF := Lib.hid (Rd.of_own (own_later HK.out.own hBi (Nat.le_refl _)))
          have hRdH := Lib.hid (Rd.of_own hown)
          have HOWN2 := Lib.hid (own_base hown sB)
          have HLST := Lib.hid HK.out.least
          have HMEM := Lib.hid HK.out.mem
          clear hHB hmnd hmq hsq hh hown hBi hmem hl0 HK
          generalize hbk : bkL W (bitH n k) = bk at *
          have HBK := Lib.hid hbk
          clear hbk
          by_cases hre : k = 0 ∨ bk < mn
          · have HEV : Hid (evenL W (bitH n (k + 1)) = [h] ∧ bkL W (bitH n (k + 1)) = mn) := by
              simp only [Hid]
              rw [HHB.out]
              by_cases hk0 : k = 0
              · subst hk0
                have h1 := evenL_first (W := W) (h := h) (by rw [HMQ.out]; exact hm0)
                rw [HMQ.out] at h1
                exact h1
              · have h2 : bk < mn := by omega
                refine ⟨evenL_more (by rw [HBK.out, HMQ.out]; exact h2), ?_⟩
                rw [bkL_snoc, HBK.out, HMQ.out]; omega
            have HNEW : Hid (∀ wx : World, Below wr.heap.size wr wx → BiSt w W n (k + 1) (all - 2 * mn) A2 n2 c2 h wx) := fun wx hb =>
              ⟨.inr ⟨by omega, by rw [HEV.out.2, HALL.out]⟩, .inr ⟨by rw [HEV.out.1]; simp, fun g hg => by rw [HEV.out.1] at hg; simp at hg; subst hg; exact bef_irrefl g⟩, own_later HOWN2.out hb (Nat.le_refl _), HBI.out.trans (hb.mono HBI.out.size)⟩
            have HSKB := Lib.hid (skBefore_any A2 A2 n2 c2 n2 c2 h h wr hRdH.out hRdH.out (by omega) (by omega))
            rw [bef_irrefl] at HSKB
            have hLd : L < 0 ∨ (0 ≤ L ∧ all - 2 * mn < L) := by
              rcases HLST.out with ⟨_, e⟩ | ⟨e0, e⟩
              · exact .inl (by omega)
              · have e2' : L = all - 2 * bk := by have h := e; rw [HALL.out] at h; exact h
                rcases hre with e2 | e2
                · omega
                · exact .inr ⟨by omega, by omega⟩
            rcases hLd with hL0 | ⟨hL0, hL1⟩
            · have hd1 : decide (L < 0) = true := decide_eq_true hL0
              clear hre
              go_wp2_with first | (go_at_call 67; refine (l1Abs_any (all - 2 * s) _ (by omega) (by omega)).mono ?_; rintro e wx ⟨rfl, rfl⟩; rw [HABS.out]) | (go_at_call 68; refine HSKB.out.mono ?_; rintro e w9 ⟨rfl, hb9⟩)
              go_roundw
              case rel => exact ⟨k + 1, _, A2, n2, c2, h, by omega, by (have := HB.out; congr 1; omega), rfl, by rw [HEV.out.1]; rfl, rfl, by omega, HNEW.out _ (by assumption)⟩
              case measure => simp [intOf]; have := HB.out; omega
            · have hd1 : decide (L < 0) = false := decide_eq_false (by omega)
              have hd2 : decide (all - 2 * mn < L) = true := decide_eq_true hL1
              clear hre
              go_wp2_with first | (go_at_call 67; refine (l1Abs_any (all - 2 * s) _ (by omega) (by omega)).mono ?_; rintro e wx ⟨rfl, rfl⟩; rw [HABS.out]) | (go_at_call 68; refine HSKB.out.mono ?_; rintro e w9 ⟨rfl, hb9⟩)
              go_roundw
              case rel => exact ⟨k + 1, _, A2, n2, c2, h, by omega, by (have := HB.out; congr 1; omega), rfl, by rw [HEV.out.1]; rfl, rfl, by omega, HNEW.out _ (by assumption)⟩
              case measure => simp [intOf]; have := HB.out; omega
          · have hk1 : ¬ k = 0 := fun h => hre (.inl h)
            have hmb : mn ≤ bk := by have h9 : ¬ bk < mn := fun h => hre (.inr h); omega
            have hLv : L = all - 2 * bk := by
              rcases HLST.out with ⟨e0, _⟩ | ⟨_, e⟩
              · exact absurd e0 hk1
              · rw [HALL.out] at e; exact e
            have hL0 : 0 ≤ L := by omega
            have hFm : F ∈ evenL W (bitH n k) ∧ ∀ g ∈ evenL W (bitH n k), bef g F = false := by
              rcases HMEM.out with e | e
              · exact absurd e hk1
              · exact e
            have HFM := Lib.hid hFm
            have hFl : F.length = n' := by have := HFO.out.1; rw [length_intCells] at this; omega
            have hd1 : decide (L < 0) = false := decide_eq_false (by omega)
            have hd2 : decide (all - 2 * mn < L) = false := decide_eq_false (by omega)
            have HLV := Lib.hid hLv
            clear hFm hFl hre hLv
            by_cases hsm : mn = bk
            · have HE1 : Hid (evenL W (bitH n (k + 1)) = evenL W (bitH n k) ++ [h] ∧ bkL W (bitH n (k + 1)) = bk) := by
                simp only [Hid]
                rw [HHB.out]
                exact ⟨evenL_same (by rw [HBK.out, HMQ.out]; exact hsm), by rw [bkL_snoc, HBK.out, HMQ.out]; omega⟩
              have hde : (all - 2 * mn == L) = true := by have := HLV.out; simp; omega
              have HSKB := Lib.hid (skBefore_any A2 A' n2 c2 n' c' h F wr hRdH.out hRdF.out (by omega) (by omega))
              have hdiff : all - 2 * mn = L := by have := HLV.out; omega
              have HDIFF := Lib.hid hdiff
              have HNEW1 : Hid (bef h F = true → ∀ wx : World, Below wr.heap.size wr wx → BiSt w W n (k + 1) L A2 n2 c2 h wx) := fun hb2 wx hb =>
                ⟨.inr ⟨by omega, by rw [HE1.out.2, HALL.out]; exact HLV.out⟩, .inr ⟨by rw [HE1.out.1]; simp, fun g hg => by
                  rw [HE1.out.1] at hg
                  rcases List.mem_append.1 hg with hg | hg
                  · cases e : bef g h
                    · rfl
                    · have := bef_trans g h F e hb2
                      rw [HFM.out.2 g hg] at this; cases this
                  · simp at hg; subst hg; exact bef_irrefl g⟩, own_later HOWN2.out hb (Nat.le_refl _), HBI.out.trans (hb.mono HBI.out.size)⟩
              have HNEW2 : Hid (bef h F = false → ∀ wx : World, Below wr.heap.size wr wx → BiSt w W n (k + 1) L A' n' c' F wx) := fun hb2 wx hb =>
                ⟨.inr ⟨by omega, by rw [HE1.out.2, HALL.out]; exact HLV.out⟩, .inr ⟨by rw [HE1.out.1]; simp [HFM.out.1], fun g hg => by
                  rw [HE1.out.1] at hg
                  rcases List.mem_append.1 hg with hg | hg
                  · exact HFM.out.2 g hg
                  · simp at hg; subst hg; exact hb2⟩, own_later HFO.out hb (Nat.le_refl _), HBI.out.trans (hb.mono HBI.out.size)⟩
              have HCT : Hid ((evenL W (bitH n (k + 1))).length = (evenL W (bitH n k)).length + 1) := by simp only [Hid]; rw [HE1.out.1, List.length_append]; rfl
              clear hsm hdiff
              generalize (evenL W (bitH n k)).length = ct at *
              cases hbf : bef h F
              · rw [hbf] at HSKB
                go_wp2_with first | (go_at_call 67; refine (l1Abs_any (all - 2 * s) _ (by omega) (by omega)).mono ?_; rintro e wx ⟨rfl, rfl⟩; rw [HABS.out]) | (go_at_call 68; refine HSKB.out.mono ?_; rintro e w9 ⟨rfl, hb9⟩)
                go_roundw
                case rel => exact ⟨k + 1, L, A', n', c', F, by omega, by (have := HB.out; congr 1; omega), rfl, by rw [HCT.out]; go_num, rfl, hn', HNEW2.out hbf _ (by assumption)⟩
                case measure => simp [intOf]; have := HB.out; omega
              · rw [hbf] at HSKB
                go_wp2_with first | (go_at_call 67; refine (l1Abs_any (all - 2 * s) _ (by omega) (by omega)).mono ?_; rintro e wx ⟨rfl, rfl⟩; rw [HABS.out]) | (go_at_call 68; refine HSKB.out.mono ?_; rintro e w9 ⟨rfl, hb9⟩)
                go_roundw
                case rel => exact ⟨k + 1, L, A2, n2, c2, h, by omega, by (have := HB.out; congr 1; omega), rfl, by rw [HCT.out]; go_num, rfl, by omega, HNEW1.out hbf _ (by assumption)⟩
                case measure => simp [intOf]; have := HB.out; omega
            · have HE1 : Hid (evenL W (bitH n (k + 1)) = evenL W (bitH n k) ∧ bkL W (bitH n (k + 1)) = bk) := by
                simp only [Hid]
                rw [HHB.out]
                exact ⟨evenL_less (by rw [HBK.out, HMQ.out]; omega), by rw [bkL_snoc, HBK.out, HMQ.out]; omega⟩
              have hde : (all - 2 * mn == L) = false := by have := HLV.out; simp; omega
              have HNEW2 : Hid (BiSt w W n (k + 1) L A' n' c' F wr) :=
                ⟨.inr ⟨by omega, by rw [HE1.out.2, HALL.out]; exact HLV.out⟩, .inr (by rw [HE1.out.1]; exact HFM.out), HFO.out, HBI.out⟩
              clear hsm
              go_wp2_with (go_at_call 67; refine (l1Abs_any (all - 2 * s) _ (by omega) (by omega)).mono ?_; rintro e wx ⟨rfl, rfl⟩; rw [HABS.out])
              go_roundw
              case rel => exact ⟨k + 1, L, A', n', c', F, by omega, by (have := HB.out; congr 1; omega), rfl, by rw [HE1.out.1], rfl, hn', HNEW2.out⟩
              case measure => simp [intOf]; have := HB.out; omega
    · have hkP : k = P := by omega
      have hkb : ¬ ((2 * k + 1 : Nat) : Int) < (Q : Int) := by have := HQP.out; omega
      have hperm : (bitH n k).Perm (halvesP n) := by rw [hkP, HP.out]; exact halvesP_perm hn1
      have hLv : L = ldR W := by
        rcases hK.least with ⟨e, _⟩ | ⟨_, e⟩
        · omega
        · rw [e, bkL_perm hperm]; unfold ldR; rw [hB, HLL.out]; simp
      have hCv : ((evenL W (bitH n k)).length : Int) = chR W := by
        unfold chR; rw [hB, HLL.out, (evenL_perm hperm).length_eq]; simp
      have hFv : F = fhR W := by
        rcases hK.mem with e | ⟨h1, h2⟩
        · omega
        · have hs : (evenL W (halvesP n)).Pairwise (fun a b => bef a b = true) := by
            unfold evenL; exact (extE_sorted (n - 1) 1 [0]).filter _
          have hf := first_unique hs ((evenL_perm hperm).mem_iff.1 h1) (fun g hg => h2 g ((evenL_perm hperm).mem_iff.2 hg))
          unfold fhR rowL
          rw [hB, HLL.out]
          simp only [if_true]
          rw [List.getD_eq_getElem?_getD, ← List.head?_eq_getElem?, hf]; rfl
      rw [hLv, hCv]
      rw [hFv] at hK
      have HOWN := Lib.hid hK.own
      have HBL := Lib.hid hK.bel
      clear hK hLv hCv hFv hperm
      go_wp2
      go_ret3
      exact ⟨A', n', c', rfl, HOWN.out, HBL.out⟩

end Go.Proofs.Ytkijcpbjjbhnhaa
