/-
  Contracts: the places of all squares, of the program, and LeftOnTablet of the program and of the model.
-/
import Derived.Test.YtieiakljholkaaaDoorTabM
import Derived.Laws.IdiomStrings
import Derived.WalkSmall
import Derived.Lib.OthersKept
namespace Go.Proofs.YtieiakljholkaaaDoor
open Go.RowKit
set_option linter.unusedVariables false
set_option linter.unusedSimpArgs false

/-- the places of the first m squares, row by row -/
def sqL (W m : Nat) (g : Nat → Nat → Bool) : List (Int × Int) := ((List.range m).filter fun k => g (k / W) (k % W)).map fun k => (((k % W : Nat) : Int), ((k / W : Nat) : Int))
theorem sqL_succ (W m : Nat) (g : Nat → Nat → Bool) : sqL W (m + 1) g = sqL W m g ++ (if g (m / W) (m % W) then [(((m % W : Nat) : Int), ((m / W : Nat) : Int))] else []) := by
  simp only [sqL, List.range_succ, List.filter_append, List.map_append]
  congr 1
  by_cases h : g (m / W) (m % W) = true
  · simp [h]
  · simp [h]
theorem length_sqL (W m : Nat) (g : Nat → Nat → Bool) : (sqL W m g).length = cntF W m g := by
  induction m with
  | zero => rfl
  | succ m ih =>
    rw [sqL_succ, cntF_succ, List.length_append, ih]
    split <;> rfl

theorem place_info : (Tryd.prog.info? 52).map (fun i => (i.zero, i.size, i.bytes)) = some (some (.agg #[.int .i64 0, .int .i64 0]), 2, 16) := by kernel_rfl
/-- a row that a call owns lies in no iterator's block -/
theorem own_iter {w : World} {B e z n k p : Nat} {v : Value} {s : ByteArray} {xs : List Value} (h : w.ownsRow B e z v n xs) (hk : w.heap[k]? = some (.stringIter s p)) : ∀ g, v.ownBlock = some g → g ≠ k := by
  intro g hg e0
  subst e0
  rcases h.2 with ⟨rfl, h0⟩ | ⟨g', cap, cur, rfl, hb, hg', _⟩
  · simp [Value.ownBlock] at hg
  · simp [Value.ownBlock] at hg
    subst hg
    rw [hk] at hg'
    cases hg'
theorem own_iterAt {w : World} {B e z n k p : Nat} {v : Value} {s : ByteArray} {xs : List Value} (h : w.ownsRow B e z v n xs) (hk : w.heap[k]? = some (.stringIter s p)) (p' : Nat) : (w.iterAt k s p').ownsRow B e z v n xs := by
  have hne := own_iter h hk
  refine ⟨h.1, ?_⟩
  rcases h.2 with h0 | ⟨g, cap, cur, rfl, hb, hg, rest⟩
  · exact .inl h0
  · refine .inr ⟨g, cap, cur, rfl, hb, ?_, rest⟩
    rw [Lib.iterAt_other w k g s p' (hne g (by simp [Value.ownBlock]))]
    exact hg

set_option maxRecDepth 100000 in
set_option maxHeartbeats 4000000 in
theorem squaresOf_any (A : Option Addr) (n c W : Nat) (ss : List ByteArray) (w : World) (hr : Rd w 1 A n (strCells ss)) (hb : TB ss W n) :
    Calls Tryd.prog 45 #[.slice A n c] w fun e w' => ∃ A' c', e = .returned (.slice A' (cntF W (n * W) (tq ss)) c') ∧ w'.ownsRow w.heap.size 52 2 (.slice A' (cntF W (n * W) (tq ss)) c') (cntF W (n * W) (tq ss)) (pairCells (sqL W (n * W) (tq ss))) ∧ Below w.heap.size w w' := by
  obtain ⟨j0, hj, hy0, hy1, hy2⟩ := info_parts place_info
  have hn1 := hb.h1
  have hn10 := hb.h10
  have hW1 := hb.w1
  have hW10 := hb.w10
  obtain ⟨b, o, rfl, hbl, s00, p00, hs00⟩ := hr.tab0 hb
  go_enter Tryd.func45, Tryd.ntmps45
  go_wp2
  go_loopw [3, 10] (fun v i wr => ∃ (k q t : Nat) (A' : Option Addr) (c' : Nat), k ≤ n ∧ q ≤ 100 ∧ Hid (q = k * W) ∧ Hid (t = cntF W q (tq ss)) ∧ i = .int .i64 k ∧ v = .slice A' t c' ∧ wr.ownsRow w.heap.size 52 2 (.slice A' t c') t (pairCells (sqL W q (tq ss))) ∧ Below w.heap.size w wr) (fun _ i _ => n - (intOf i).toNat)
  case atStart => exact ⟨0, 0, 0, none, 0, Nat.zero_le _, by omega, by simp [Hid], by simp [Hid, cntF, isF], rfl, rfl, World.ownsRow_nil _ _ _ _, Below.refl _ _⟩
  case round =>
    obtain ⟨k, q, t, A', c', hk, hq100, hq, ht, rfl, rfl, hown, hB⟩ := hrel
    have sB := hB.size
    by_cases hlt : k < n
    · obtain ⟨s, p, hz, _, hby⟩ := (hr.later hB (Nat.le_refl _)).trow hb hlt
      have hz' : s.size = W := hz.out
      have hqW : q + W ≤ 100 := by
        have h1 : (k + 1) * W ≤ 10 * 10 := Nat.mul_le_mul (by omega) hW10
        rw [Nat.succ_mul] at h1
        have := hq.out
        omega
      obtain ⟨wo, rfl⟩ : ∃ wo : World, wo = wr := ⟨_, rfl⟩
      have it0 : ItAt (wo.alloc (.stringIter s 0)) wo.heap.size s 0 := by unfold ItAt; show (wo.heap.push _)[wo.heap.size]? = _; simp
      have own0 := hown.alloc (.stringIter s 0)
      have hB0 := hB.alloc sB (.stringIter s 0)
      have hz0 : wo.heap.size + 1 ≤ (wo.alloc (.stringIter s 0)).heap.size := by simp
      go_wp2
      go_loopw [3] (fun v wq => ∃ (m t : Nat) (A2 : Option Addr) (c2 : Nat), m ≤ W ∧ Hid (t = cntF W (q + m) (tq ss)) ∧ v = .slice A2 t c2 ∧ wq.ownsRow w.heap.size 52 2 (.slice A2 t c2) t (pairCells (sqL W (q + m) (tq ss))) ∧ ItAt wq wo.heap.size s m ∧ Below w.heap.size w wq ∧ wo.heap.size + 1 ≤ wq.heap.size) (fun _ wq => W - wq.iterPos wo.heap.size)
      case atStart => exact ⟨0, t, A', c', Nat.zero_le _, ht, rfl, own0, it0, hB0, hz0⟩
      case round =>
        clear own0 it0 hB0 hz0
        obtain ⟨m, t2, A2, c2, hm, ht2, rfl, own2, hit, hB2, hsz⟩ := hrel
        have hip := iterPos_of hit
        have HIP := Lib.hid hip
        clear hip
        by_cases hlm : m < W
        · have hms : m < s.size := by omega
          have he := hby.out m hms
          have hlow : (s[m]).toNat < 128 := by rw [he]; exact sgn_lt _
          have hnx : ∀ ty, (Instr.next (.pointer (some ⟨wo.heap.size, 0, none⟩)) true ty).run Tryd.prog wr = _ := fun ty => Lib.run_next_ascii_at wr wo.heap.size s m ty hit hms hlow
          have hdm := Lib.hid (divmod_at (W := W) (y := k) hlm)
          have HC := Lib.hid (sqL_succ W (q + m) (tq ss))
          have HD := Lib.hid (cntF_succ W (q + m) (tq ss))
          rw [hq.out, hdm.out.1, hdm.out.2, ← hq.out] at HC HD
          have hle : t2 ≤ q + m := by rw [ht2.out]; exact cntF_le W (q + m) (tq ss)
          have hb35 : (((s[m]).toNat : Int) == 35) = tq ss k m := by rw [he, sgn_int]
          have own3 := own_iterAt own2 hit (m + 1)
          have hit3 : ItAt (wr.iterAt wo.heap.size s (m + 1)) wo.heap.size s (m + 1) := Lib.iterAt_heap _ _ _ _ (m + 1) hit
          have hB3 := Lib.below_iterAt hB2 sB s (m + 1)
          have hsz3 : wo.heap.size + 1 ≤ (wr.iterAt wo.heap.size s (m + 1)).heap.size := by rw [Lib.iterAt_size]; exact hsz
          clear he own2 hit hB2
          generalize hwi : wr.iterAt wo.heap.size s (m + 1) = wi at *
          clear hwi
          generalize tq ss k m = v at *
          cases v
          · go_wp2
            go_roundw
            case rel => exact ⟨m + 1, t2, A2, c2, by omega, by have h := HD.out; simp at h; simp only [Hid]; rw [ht2.out]; exact h.symm, rfl, by have h := HC.out; simp at h; rw [show q + (m + 1) = q + m + 1 from rfl, h]; exact own3, hit3, hB3, hsz3⟩
            case measure => rw [HIP.out, iterPos_of hit3]; omega
          · go_wp2_with (at_builtin; refine wpList_append_own _ rfl (.tmp 23) (.tmp 27) 47 rfl w.heap.size 52 j0 (.agg #[.int .i64 0, .int .i64 0]) 2 16 Tryd.underlying47 hj hy0 hy1 hy2 rfl (by decide) _ _ _ rfl (own3.alloc _) ⟨wi.heap.size, 0, none⟩ 1 1 [.int .i64 (m : Int), .int .i64 (k : Int)] rfl rfl ?c1 ?c2 ?c3 ?c4 ?c5 ?_)
            case c2 => first | exact ⟨rfl, rfl⟩ | exact two_oneCell _ _ _ _
            case c3 => simp only [maxLen]; omega
            case c4 => omega
            case c5 => first | omega | (simp; omega)
            · intro v' w2 hown' hgrow _
              have hb2 := gb_new (Nat.le_refl _) (hB3.alloc (by omega) (.cells #[.int .i64 (m : Int), .int .i64 (k : Int)] 52)) hgrow (fun g hg => (own3.lt g hg).1)
              have hsz4 : wo.heap.size + 1 ≤ w2.heap.size := by have := hgrow.size; simp at this; omega
              have hit4 : ItAt w2 wo.heap.size s (m + 1) := by
                have hlt0 : wo.heap.size < wi.heap.size := by omega
                refine ((hgrow.block wo.heap.size (by simp; omega) (fun e => ?_)).trans (Below.heap_alloc wi _ _ hlt0)).trans hit3
                exact own_iter own3 hit3 _ e.symm rfl
              obtain ⟨A3, c3', rfl⟩ := own_slice hown'
              have hip4 := iterPos_of hit4
              clear hgrow own3 hit3 hB3
              go_wp2
              go_roundw
              case rel => exact ⟨m + 1, t2 + 1, A3, c3', by omega, by have h := HD.out; simp at h; simp only [Hid]; rw [show q + (m + 1) = q + m + 1 from rfl, h, ht2.out], rfl, by have h := HC.out; simp at h; rw [show q + (m + 1) = q + m + 1 from rfl, h, pairCells_append]; exact hown', hit4, hb2, hsz4⟩
              case measure => rw [HIP.out, hip4]; omega
        · have hms : ¬ m < s.size := by omega
          have hnx : ∀ ty, (Instr.next (.pointer (some ⟨wo.heap.size, 0, none⟩)) true ty).run Tryd.prog wr = _ := fun ty => Lib.run_next_end_at wr wo.heap.size s m ty hit hms
          have hme : m = W := by omega
          subst hme
          go_wp2
          go_roundw
          case rel => exact ⟨k + 1, q + m, t2, A2, c2, by omega, hqW, by simp only [Hid]; rw [hq.out, Nat.succ_mul], ht2, by go_num, rfl, own2, hB2⟩
          case measure => simp [intOf]; omega
    · have hkn : k = n := by omega
      subst hkn
      go_wp2
      go_ret
      have e := hq.out
      have e2 := ht.out
      subst e
      subst e2
      exact ⟨A', c', rfl, hown, hB⟩

/-- how many squares, or nothing -/
def leftR (ss : List ByteArray) : Nat := if tabB ss then cntF (tabW ss) (ss.length * tabW ss) (tq ss) else 0
theorem leftR_yes {ss : List ByteArray} {W n : Nat} (h : TB ss W n) : leftR ss = cntF W (n * W) (tq ss) := by
  unfold leftR
  rw [h.good, if_pos rfl, h.len, h.headW]
theorem leftR_no {ss : List ByteArray} (h : tabB ss = false) : leftR ss = 0 := by
  unfold leftR
  rw [h]
  rfl

set_option maxRecDepth 100000 in
set_option maxHeartbeats 1000000 in
theorem leftOn_any (A : Option Addr) (n c : Nat) (ss : List ByteArray) (w : World) (hr : Rd w 1 A n (strCells ss)) (hsz : ∀ s ∈ ss, s.size ≤ 9223372036854775807) :
    Calls Tryd.prog 19 #[.slice A n c] w fun e w' => e = .returned (.tuple #[.int .i64 (leftR ss : Nat), .bool (tabB ss)]) ∧ Below w.heap.size w w' := by
  have HG := Lib.hid (isTablet_any A n c ss w hr hsz)
  clear hsz
  cases hB : tabB ss
  · rw [leftR_no hB]
    rw [hB] at HG
    go_enter Tryd.func19, Tryd.ntmps19
    go_wp2_with fail
    refine HG.out.mono ?_; rintro e w1 ⟨rfl, hb1⟩
    go_wp2
    go_ret2
    exact ⟨rfl, hb1⟩
  · have hb := TB.of hB
    rw [hr.slen] at hb
    rw [leftR_yes hb]
    rw [hB] at HG
    have HS := Lib.hid (fun w1 h => squaresOf_any A n c _ ss w1 h hb)
    go_enter Tryd.func19, Tryd.ntmps19
    go_wp2_with fail
    refine HG.out.mono ?_; rintro e w1 ⟨rfl, hb1⟩
    have s1 := hb1.size
    go_wp2_with fail
    refine (HS.out _ (hr.later hb1 (Nat.le_refl _))).mono ?_; rintro e w2 ⟨A2, c2, rfl, own2, hb2⟩
    clear own2
    go_wp2
    go_ret2
    exact ⟨rfl, hb1.trans (hb2.mono s1)⟩

set_option maxRecDepth 100000 in
set_option maxHeartbeats 1000000 in
theorem sLeftOn_any (A : Option Addr) (n c : Nat) (ss : List ByteArray) (w : World) (hr : Rd w 1 A n (strCells ss)) (hsz : ∀ s ∈ ss, s.size ≤ 9223372036854775807) :
    Calls Tryd.prog 18 #[.slice A n c] w fun e w' => e = .returned (.tuple #[.int .i64 (leftR ss : Nat), .bool (tabB ss)]) ∧ Below w.heap.size w w' := by
  have HG := Lib.hid (mlGood_any A n c ss w hr hsz)
  clear hsz
  cases hB : tabB ss
  · rw [leftR_no hB]
    rw [hB] at HG
    go_enter Tryd.func18, Tryd.ntmps18
    go_wp2_with fail
    refine HG.out.mono ?_; rintro e w1 ⟨rfl, rfl⟩
    go_wp2
    go_ret2
    exact ⟨rfl, Below.refl _ _⟩
  · have hb := TB.of hB
    rw [hr.slen] at hb
    rw [leftR_yes hb]
    rw [hB] at HG
    have HS := Lib.hid (mlLeft_any A n c _ ss w hr hb)
    go_enter Tryd.func18, Tryd.ntmps18
    go_wp2_with fail
    refine HG.out.mono ?_; rintro e w1 ⟨rfl, rfl⟩
    go_wp2_with fail
    refine HS.out.mono ?_; rintro e w2 ⟨rfl, hb2⟩
    go_wp2
    go_ret2
    exact ⟨rfl, hb2⟩

end Go.Proofs.YtieiakljholkaaaDoor
