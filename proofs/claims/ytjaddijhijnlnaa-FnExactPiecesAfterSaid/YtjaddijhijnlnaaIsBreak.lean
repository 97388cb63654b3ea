/-
  Contracts: IsBreak of the program and of the model.
-/
import Derived.Test.YtjaddijhijnlnaaLengths
import Derived.Deep.QuietTactic
import Derived.BigQuiet
namespace Go.Proofs.Ytjaddijhijnlnaa
open Go.RowKit

theorem runB_bars (bs : List (Int × Bool × Int)) : ∀ (l : List (Int × Int)) (s : Int), (∀ q ∈ l, barB q.1 q.2 = true) → ∀ r, runB bs l s = some r → ∀ q ∈ r.1, barB q.1 q.2 = true := by
  induction bs with
  | nil => intro l s h r hr; simp only [runB, Option.some.injEq] at hr; subst hr; exact h
  | cons b bs ih =>
    obtain ⟨p, d, t⟩ := b
    intro l s h r hr
    simp only [runB] at hr
    split at hr
    · rename_i hc
      obtain ⟨hcm, hpl⟩ := hc
      have hB1 := h _ (List.getElem_mem hpl)
      have hC : canB (l[p.toNat]).1 (l[p.toNat]).2 d t = true := by
        have := hcm
        unfold cmB at this
        rw [dif_pos (cmB_lt hcm)] at this
        exact this
      refine ih _ _ ?_ r hr
      intro q hq
      rcases List.mem_append.1 hq with h' | h'
      · rcases List.mem_or_eq_of_mem_set h' with h'' | h''
        · exact h q h''
        · subst h''; exact (part_bars hB1 hC).1
      · rw [List.mem_singleton.1 h']; exact (part_bars hB1 hC).2
    · cases hr
theorem runB_len (bs : List (Int × Bool × Int)) : ∀ (l : List (Int × Int)) (s : Int) (r : List (Int × Int) × Int), runB bs l s = some r → r.1.length = l.length + bs.length := by
  induction bs with
  | nil => intro l s r hr; simp only [runB, Option.some.injEq] at hr; subst hr; simp
  | cons b bs ih =>
    obtain ⟨p, d, t⟩ := b
    intro l s r hr
    simp only [runB] at hr
    split at hr
    · have := ih _ _ r hr
      simp at this ⊢; omega
    · cases hr
theorem mbR_len {x y : Int} {bs : List (Int × Bool × Int)} {r : List (Int × Int) × Int} (h : mbR x y bs = some r) : r.1.length = 1 + bs.length := by
  unfold mbR at h
  split at h
  · have := runB_len bs _ _ r h
    simpa using this
  · cases h
theorem mbR_bars {x y : Int} {bs : List (Int × Bool × Int)} {r : List (Int × Int) × Int} (h : mbR x y bs = some r) : ∀ q ∈ r.1, barB q.1 q.2 = true := by
  unfold mbR at h
  split at h
  · rename_i hb
    exact runB_bars bs _ _ (by simpa using hb.1) r h
  · cases h

def ibOk (x y : Int) (bs : List (Int × Bool × Int)) : Bool := (mbR x y bs).isSome && decide (bs.length < 144)
def ibR (x y : Int) (bs : List (Int × Bool × Int)) (p : Int) (d : Bool) (t : Int) : Bool := ibOk x y bs && cmB ((mbR x y bs).getD ([], 0)).1 p d t

set_option maxRecDepth 100000 in
set_option maxHeartbeats 1000000 in
theorem isBreak_any (x y : Int) (A : Option Addr) (n c : Nat) (bs : List (Int × Bool × Int)) (p : Int) (d : Bool) (t : Int) (w : World) (hr : Rd w 3 A n (tripCells bs)) (hn : n ≤ 1048576) :
    Calls Try.prog 48 #[bar2 x y, .slice A n c, brk3 p d t] w fun e w' => e = .returned (.tuple #[.bool (ibR x y bs p d t), .bool (ibOk x y bs)]) ∧ Below w.heap.size w w' := by
  have hnl : bs.length = n := by have := hr.1; rw [length_tripCells] at this; omega
  have HNL := Lib.hid hnl
  clear hnl
  cases hM : mbR x y bs
  · have h1 : ibOk x y bs = false := by simp [ibOk, hM]
    have h2 : ibR x y bs p d t = false := by simp [ibR, h1]
    rw [h1, h2]
    clear h1 h2
    go_enter Try.func48, Try.ntmps48
    go_wp2_with fail
    refine (makeBreaks_any x y A n c bs _ ?_ hn).mono ?_
    · exact (hr.alloc _).alloc _
    rintro e w1 ⟨A1, n1, c1, rfl, own1, hb1⟩
    have s1 := hb1.size
    clear own1
    go_wp2
    go_ret2
    exact ⟨rfl, by (repeat (first | (with_reducible exact Below.refl _ _) | (with_reducible assumption) | (with_reducible refine Below.drew ?_) | ((with_reducible refine balloc ?_ _ ?_); · (first | (simp; done) | (simp; omega) | omega)) | ((with_reducible refine bset ?_ _ ?_); · (first | (simp; done) | (simp; omega) | omega)) | (with_reducible refine bdrewN _ ?_) | ((with_reducible refine bcall ?_ (by assumption) ?_); · (first | (simp; done) | (simp; omega) | omega))))⟩
  · rename_i r
    have hb := mbR_bars hM
    have hn2 : n ≤ 144 := by
      have hnl := HNL.out
      unfold mbR at hM
      split at hM
      · rename_i h; omega
      · cases hM
    have HB := Lib.hid hb
    clear hb
    by_cases h144 : n < 144
    · have h1 : ibOk x y bs = true := by simp [ibOk, hM, HNL.out, h144]
      have h2 : ibR x y bs p d t = cmB r.1 p d t := by simp [ibR, h1, hM]
      rw [h1, h2]
      clear h1 h2
      have t1 : decide ((144 : Int) ≤ (n : Int)) = false := by simp; omega
      go_enter Try.func48, Try.ntmps48
      go_wp2_with fail
      refine (makeBreaks_any x y A n c bs _ ?_ hn).mono ?_
      · exact (hr.alloc _).alloc _
      rintro e w1 ⟨A1, n1, c1, rfl, own1, hb1⟩
      rw [hM] at own1
      simp only [Option.getD_some] at own1
      have s1 := hb1.size
      obtain ⟨hc1, hf1⟩ := bcell hb1
      have z1 : w.heap.size < w1.heap.size := (by simp at s1; omega)
      have z2 : w.heap.size + 1 < w1.heap.size := (by simp at s1; omega)
      go_wp2_with fail
      refine (canMake_any _ _ _ _ _ _ r.1 _ (Rd.of_own own1) HB.out).mono ?_; rintro e w2 ⟨rfl, hb2⟩
      have s2 := hb2.size
      go_wp2
      go_ret2
      exact ⟨rfl, by (repeat (first | (with_reducible exact Below.refl _ _) | (with_reducible assumption) | (with_reducible refine Below.drew ?_) | ((with_reducible refine balloc ?_ _ ?_); · (first | (simp; done) | (simp; omega) | omega)) | ((with_reducible refine bset ?_ _ ?_); · (first | (simp; done) | (simp; omega) | omega)) | (with_reducible refine bdrewN _ ?_) | ((with_reducible refine bcall ?_ (by assumption) ?_); · (first | (simp; done) | (simp; omega) | omega))))⟩
    · have h1 : ibOk x y bs = false := by simp [ibOk, HNL.out, h144]
      have h2 : ibR x y bs p d t = false := by simp [ibR, h1]
      rw [h1, h2]
      clear h1 h2
      have t1 : decide ((144 : Int) ≤ (n : Int)) = true := by simp; omega
      go_enter Try.func48, Try.ntmps48
      go_wp2_with fail
      refine (makeBreaks_any x y A n c bs _ ?_ hn).mono ?_
      · exact (hr.alloc _).alloc _
      rintro e w1 ⟨A1, n1, c1, rfl, own1, hb1⟩
      have s1 := hb1.size
      clear own1
      go_wp2
      go_ret2
      exact ⟨rfl, by (repeat (first | (with_reducible exact Below.refl _ _) | (with_reducible assumption) | (with_reducible refine Below.drew ?_) | ((with_reducible refine balloc ?_ _ ?_); · (first | (simp; done) | (simp; omega) | omega)) | ((with_reducible refine bset ?_ _ ?_); · (first | (simp; done) | (simp; omega) | omega)) | (with_reducible refine bdrewN _ ?_) | ((with_reducible refine bcall ?_ (by assumption) ?_); · (first | (simp; done) | (simp; omega) | omega))))⟩

set_option maxRecDepth 100000 in
set_option maxHeartbeats 1000000 in
theorem sIsBreak_any (x y : Int) (A : Option Addr) (n c : Nat) (bs : List (Int × Bool × Int)) (p : Int) (d : Bool) (t : Int) (w : World) (hr : Rd w 3 A n (tripCells bs)) (hn : n ≤ 1048576) :
    Calls Try.prog 45 #[bar2 x y, .slice A n c, brk3 p d t] w fun e w' => e = .returned (.tuple #[.bool (ibR x y bs p d t), .bool (ibOk x y bs)]) ∧ Below w.heap.size w w' := by
  have hnl : bs.length = n := by have := hr.1; rw [length_tripCells] at this; omega
  have HNL := Lib.hid hnl
  clear hnl
  cases hM : mbR x y bs
  · have h1 : ibOk x y bs = false := by simp [ibOk, hM]
    have h2 : ibR x y bs p d t = false := by simp [ibR, h1]
    rw [h1, h2]
    clear h1 h2
    go_enter Try.func45, Try.ntmps45
    go_wp2_with fail
    refine (brAll_any x y A n c bs _ ?_ hn).mono ?_
    · exact (hr.alloc _).alloc _
    rintro e w1 ⟨A1, n1, c1, rfl, own1, hb1⟩
    have s1 := hb1.size
    clear own1
    go_wp2
    go_ret2
    exact ⟨rfl, by (repeat (first | (with_reducible exact Below.refl _ _) | (with_reducible assumption) | (with_reducible refine Below.drew ?_) | ((with_reducible refine balloc ?_ _ ?_); · (first | (simp; done) | (simp; omega) | omega)) | ((with_reducible refine bset ?_ _ ?_); · (first | (simp; done) | (simp; omega) | omega)) | (with_reducible refine bdrewN _ ?_) | ((with_reducible refine bcall ?_ (by assumption) ?_); · (first | (simp; done) | (simp; omega) | omega))))⟩
  · rename_i r
    have hb := mbR_bars hM
    have hn2 : n ≤ 144 := by
      have hnl := HNL.out
      unfold mbR at hM
      split at hM
      · rename_i h; omega
      · cases hM
    have HB := Lib.hid hb
    clear hb
    by_cases h144 : n < 144
    · have h1 : ibOk x y bs = true := by simp [ibOk, hM, HNL.out, h144]
      have h2 : ibR x y bs p d t = cmB r.1 p d t := by simp [ibR, h1, hM]
      rw [h1, h2]
      clear h1 h2
      have t1 : ((n : Int) == 144) = false := by simp; omega
      go_enter Try.func45, Try.ntmps45
      go_wp2_with fail
      refine (brAll_any x y A n c bs _ ?_ hn).mono ?_
      · exact (hr.alloc _).alloc _
      rintro e w1 ⟨A1, n1, c1, rfl, own1, hb1⟩
      rw [hM] at own1
      simp only [Option.getD_some] at own1
      have s1 := hb1.size
      obtain ⟨hc1, hf1⟩ := bcell hb1
      have z1 : w.heap.size < w1.heap.size := (by simp at s1; omega)
      have z2 : w.heap.size + 1 < w1.heap.size := (by simp at s1; omega)
      have hl1 : r.1.length = n1 := by have := own1.1; rw [length_pairCells] at this; omega
      have hn1 : n1 ≤ 4000000000 := by have h := mbR_len hM; have h2 := HNL.out; omega
      have bxc : ∀ o, o < 3 → w1.cell? ⟨w.heap.size + 1, o, none⟩ = ((w.alloc (.cells #[.int .i64 x, .int .i64 y] 25)).alloc (.cells #[.int .i64 p, .bool d, .int .i64 t] 63)).cell? ⟨w.heap.size + 1, o, none⟩ := fun o _ => hb1.cell (p := ⟨w.heap.size + 1, o, none⟩) (by simp)
      have bx0 : w1.cell? ⟨w.heap.size + 1, 0, none⟩ = some (.int .i64 p) := (bxc 0 (by omega)).trans (by simp [go_sem])
      have bx1 : w1.cell? ⟨w.heap.size + 1, 1, none⟩ = some (.bool d) := (bxc 1 (by omega)).trans (by simp [go_sem])
      have bx2 : w1.cell? ⟨w.heap.size + 1, 2, none⟩ = some (.int .i64 t) := (bxc 2 (by omega)).trans (by simp [go_sem])
      have belw : Below w.heap.size w w1 := by (repeat (first | (with_reducible exact Below.refl _ _) | (with_reducible assumption) | (with_reducible refine Below.drew ?_) | ((with_reducible refine balloc ?_ _ ?_); · (first | (simp; done) | (simp; omega) | omega)) | ((with_reducible refine bset ?_ _ ?_); · (first | (simp; done) | (simp; omega) | omega)) | (with_reducible refine bdrewN _ ?_) | ((with_reducible refine bcall ?_ (by assumption) ?_); · (first | (simp; done) | (simp; omega) | omega))))
      have sw := belw.size
      clear bxc hc1 hf1 hb1 s1 hr
      by_cases hin : 0 ≤ p ∧ p ≤ (n1 : Int) - 1
      · obtain ⟨P, rfl⟩ := Int.eq_ofNat_of_zero_le hin.1
        have hpl : P < r.1.length := by omega
        have HQ := Lib.hid (cmB_at r.1 P d t hpl)
        have HB1 := Lib.hid (HB.out _ (List.getElem_mem hpl))
        obtain ⟨g, rfl, hg1, hg2⟩ := own_at own1 (by omega)
        obtain ⟨g', o', eg, _, _, py0, py1⟩ := (Rd.of_own own1).pair (show P < n1 by omega)
        simp only [Option.some.injEq, Addr.mk.injEq, and_true] at eg
        obtain ⟨rfl, rfl⟩ := eg
        simp only [Nat.zero_add] at py0 py1
        have hPi : (P : Int) < (n1 : Int) := by omega
        have hPi0 : (0 : Int) ≤ (P : Int) := by omega
        have hPn : P < n1 := by omega
        clear own1 hin hl1
        go_wp2
        go_region_held3 (fun w' => w'.cell? ⟨w.heap.size + 1, 0, none⟩ = some (.int .i64 (P : Int)) ∧ w'.cell? ⟨w.heap.size + 1, 1, none⟩ = some (.bool d) ∧ w'.cell? ⟨w.heap.size + 1, 2, none⟩ = some (.int .i64 t) ∧ w'.cell? ⟨g, P * 2, none⟩ = some (.int .i64 (r.1[P]).1) ∧ w'.cell? ⟨g, P * 2 + 1, none⟩ = some (.int .i64 (r.1[P]).2))
          ((((try dsimp only); (repeat' apply And.intro); all_goals ((repeat (first | (with_reducible refine cell_drew ?_) | (with_reducible refine cell_drewN _ ?_) | ((with_reducible refine cell_alloc ?_ ?_); · first | omega | (simp; done) | (simp; omega) | assumption) | ((with_reducible refine cell_set ?_ ?_); · first | (intro e; injection e; omega) | (intro e; simp at e; done) | (intro e; simp at e; omega)))); first | assumption | (simp; done)))))
          (first | (go_at_call 87; refine (l1In_yes _ _ _ _ ?_).mono ?_; (· exact ⟨(by omega), (by first | omega | (rw [IntWalk.i64_in _ ⟨by omega, by omega⟩]; omega))⟩); rintro e w5 ⟨rfl, rfl⟩) | (go_at_call 84; refine (brCan_any _ _ _ _ _ HB1.out).mono ?_; rintro e w5 ⟨rfl, hb5⟩; have s5 := hb5.size; have m0 : w5.cell? ⟨w.heap.size + 1, 0, none⟩ = some (.int .i64 (P : Int)) := (hb5.cell (p := ⟨w.heap.size + 1, 0, none⟩) (by first | (simp; done) | (simp; omega) | omega)).trans (by first | assumption | (go_split_ands; assumption)); have m1 : w5.cell? ⟨w.heap.size + 1, 1, none⟩ = some (.bool d) := (hb5.cell (p := ⟨w.heap.size + 1, 1, none⟩) (by first | (simp; done) | (simp; omega) | omega)).trans (by first | assumption | (go_split_ands; assumption)); have m2 : w5.cell? ⟨w.heap.size + 1, 2, none⟩ = some (.int .i64 t) := (hb5.cell (p := ⟨w.heap.size + 1, 2, none⟩) (by first | (simp; done) | (simp; omega) | omega)).trans (by first | assumption | (go_split_ands; assumption)); have m3 : w5.cell? ⟨g, P * 2, none⟩ = some (.int .i64 (r.1[P]).1) := (hb5.cell (p := ⟨g, P * 2, none⟩) (by first | (simp; done) | (simp; omega) | omega)).trans (by first | assumption | (go_split_ands; assumption)); have m4 : w5.cell? ⟨g, P * 2 + 1, none⟩ = some (.int .i64 (r.1[P]).2) := (hb5.cell (p := ⟨g, P * 2 + 1, none⟩) (by first | (simp; done) | (simp; omega) | omega)).trans (by first | assumption | (go_split_ands; assumption))))
        have hfin : Below w.heap.size w w5 := Below.trans belw.drew (hb5.mono sw)
        go_wp2
        go_ret2
        exact ⟨by simp [HQ.out], hfin⟩
      · have hcm : cmB r.1 p d t = false := by unfold cmB; rw [dif_neg]; omega
        have HQ := Lib.hid hcm
        clear own1 hcm hl1
        go_wp2
        go_quiet ((go_at_call 87; refine Calls.quiet_of_same (l1In_noQ _ _ _ _ ?_); first | omega | (rw [IntWalk.i64_in _ ⟨by omega, by omega⟩]; omega)))
        go_wp2
        go_ret2
        exact ⟨by simp [HQ.out], bdrewN _ belw⟩
    · have h1 : ibOk x y bs = false := by simp [ibOk, HNL.out, h144]
      have h2 : ibR x y bs p d t = false := by simp [ibR, h1]
      rw [h1, h2]
      clear h1 h2
      have t1 : ((n : Int) == 144) = true := by simp; omega
      go_enter Try.func45, Try.ntmps45
      go_wp2_with fail
      refine (brAll_any x y A n c bs _ ?_ hn).mono ?_
      · exact (hr.alloc _).alloc _
      rintro e w1 ⟨A1, n1, c1, rfl, own1, hb1⟩
      have s1 := hb1.size
      clear own1
      go_wp2
      go_ret2
      exact ⟨rfl, by (repeat (first | (with_reducible exact Below.refl _ _) | (with_reducible assumption) | (with_reducible refine Below.drew ?_) | ((with_reducible refine balloc ?_ _ ?_); · (first | (simp; done) | (simp; omega) | omega)) | ((with_reducible refine bset ?_ _ ?_); · (first | (simp; done) | (simp; omega) | omega)) | (with_reducible refine bdrewN _ ?_) | ((with_reducible refine bcall ?_ (by assumption) ?_); · (first | (simp; done) | (simp; omega) | omega))))⟩

end Go.Proofs.Ytjaddijhijnlnaa
