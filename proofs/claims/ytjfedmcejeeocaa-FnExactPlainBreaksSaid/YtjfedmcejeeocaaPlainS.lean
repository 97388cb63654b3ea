/-
  Contract: PlainBreaks of the model.
-/
import Derived.Test.YtjfedmcejeeocaaPlain
namespace Go.Proofs.Ytjfedmcejeeocaa
open Go.RowKit
set_option linter.unusedVariables false

theorem PS.alloc {B : Nat} {w wr : World} {S : Int} {R : List Brk} {k f : Nat} {Ap : Option Addr} {np cp : Nat} {l : List (Int × Int)} {Ao : Option Addr} {no co : Nat} {out : List Brk} (h : PS B w wr S R k f Ap np cp l Ao no co out) (hB : B ≤ wr.heap.size) (o : Obj) : PS B w (wr.alloc o) S R k f Ap np cp l Ao no co out :=
  ⟨h.ownP.alloc _, h.ownO.alloc _, h.apart, h.ok, h.run, h.fuel, h.cnt, h.bel.alloc hB _⟩
theorem mul_ne1 {u v : Int} (hB : barB u v = true) (hn : (u, v) ≠ ((1 : Int), (1 : Int))) : (u * v == 1) = false := by
  obtain ⟨a1, a2, b1, b2⟩ := barB_true hB
  simp only [beq_eq_false_iff_ne, ne_eq]
  intro h
  by_cases hu : u = 1
  · subst hu
    rw [Int.one_mul] at h
    exact hn (by rw [h])
  · have := Int.mul_le_mul (show (2 : Int) ≤ u by omega) b1 (by omega) (by omega)
    omega

set_option maxRecDepth 100000 in
set_option maxHeartbeats 4000000 in
theorem sPlainBreaks_yes (x y : Int) (w : World) (hB : barB x y = true) :
    Calls Try.prog 9 #[bar2 x y] w fun e w' => ∃ A n c, e = .returned (.tuple #[.slice A n c, .bool true]) ∧ w'.ownsRow w.heap.size 43 3 (.slice A n c) n (tripCells (plainR x y)) ∧ Below w.heap.size w w' := by
  obtain ⟨i0, hi, hz0, hz1, hz2⟩ := info_parts brkO_info
  obtain ⟨i1, hi1, hy0, hy1, hy2⟩ := info_parts bar_info
  obtain ⟨x1, x2, y1, y2⟩ := barB_true hB
  have hS1 : 1 * 1 ≤ x * y := Int.mul_le_mul x1 y1 (by omega) (by omega)
  have hS2 : x * y ≤ 12 * 12 := Int.mul_le_mul x2 y2 (by omega) (by omega)
  have hR : plainR x y = plainF (2 * (x * y).toNat) 0 [(x, y)] := by simp [plainR, hB]
  have HR := Lib.hid hR
  have hok : PlainOk (x * y) [(x, y)] := ⟨fun q hq => by rw [List.mem_singleton.1 hq]; exact hB, by simp [sumA]⟩
  have HOK := Lib.hid hok
  have HB := Lib.hid hB
  clear hR hok
  generalize hSS : x * y = S at *
  clear hSS
  go_enter Try.func9, Try.ntmps9
  go_wp2_with fail
  refine (brGood_any _ _ _).mono ?_; rintro e w1 ⟨rfl, hb1⟩; have s1 := hb1.size; obtain ⟨hc1, hf1⟩ := bcell hb1; have z1_w0 : w.heap.size < w1.heap.size := (by have q := s1; first | omega | (simp at q; omega))
  have bw1 : Below w.heap.size w w1 := by (repeat (first | (with_reducible exact Below.refl _ _) | (with_reducible assumption) | (with_reducible refine Below.drew ?_) | ((with_reducible refine balloc ?_ _ ?_); · (first | (simp; done) | (simp; omega) | omega)) | ((with_reducible refine bset ?_ _ ?_); · (first | (simp; done) | (simp; omega) | omega)) | (with_reducible refine bdrewN _ ?_) | ((with_reducible refine bcall ?_ (by assumption) ?_); · (first | (simp; done) | (simp; omega) | omega))))
  have c0 : w1.cell? ⟨w.heap.size, 0, none⟩ = some (.int .i64 x) := by rw [hc1 _ _ (by simp)]; simp [go_sem]
  have c1 : w1.cell? ⟨w.heap.size, 1, none⟩ = some (.int .i64 y) := by rw [hc1 _ _ (by simp)]; simp [go_sem]
  have s1b := bw1.size
  have hstart : ∃ f, PS w1.heap.size w1 (w1.alloc (.cells #[.int .i64 x, .int .i64 y] 27)) S (plainR x y) 0 f (some ⟨w1.heap.size, 0, none⟩) 1 1 [(x, y)] none 0 0 [] :=
    ⟨2 * S.toNat, World.ownsRow_lit w1 #[.int .i64 x, .int .i64 y] 1 (Nat.le_refl _) (by simp [maxLen]) rfl, World.ownsRow_nil _ _ _ _, fun g _ => by simp [Value.ownBlock], HOK.out, by rw [HR.out]; rfl, by simp; omega, rfl, (Below.refl _ _).alloc (Nat.le_refl _) _⟩
  have HST := Lib.hid hstart
  have BW1 := Lib.hid bw1
  clear hstart bw1 hc1 hf1 hb1
  go_wp2
  go_loopw [4, 5, 6] (fun o p i wr => ∃ (k f : Nat) (Ap : Option Addr) (np cp : Nat) (l : List (Int × Int)) (Ao : Option Addr) (no co : Nat) (out : List Brk), i = .int .i64 k ∧ p = .slice Ap np cp ∧ o = .slice Ao no co ∧ k ≤ np ∧ PS w1.heap.size w1 wr S (plainR x y) k f Ap np cp l Ao no co out) (fun _ p i _ => 300 - (intOf i).toNat - lenV p)
  case atStart =>
    obtain ⟨f, hf⟩ := HST.out
    exact ⟨0, f, _, 1, 1, _, none, 0, 0, [], rfl, rfl, rfl, by omega, hf⟩
  case round =>
    clear HST c0 c1
    obtain ⟨k, f, Ap, np, cp, l, Ao, no, co, out, rfl, rfl, rfl, hk, hps⟩ := hrel
    obtain ⟨e1, e2, e3⟩ := hps.np_eq
    by_cases hkn : k < np
    · have hkni : (k : Int) < (np : Int) := by omega
      have hkl : k < l.length := by omega
      obtain ⟨g, rfl, hg1, hg2⟩ := own_at hps.ownP (by omega)
      obtain ⟨b', o', eg, _, hx, py0, py1⟩ := (Rd.of_own hps.ownP).pair hkn
      simp only [Option.some.injEq, Addr.mk.injEq, and_true] at eg
      obtain ⟨rfl, rfl⟩ := eg
      simp only [Nat.zero_add] at py0 py1
      have hbq := hps.ok.bars _ (List.getElem_mem hkl)
      have sB := hps.bel.size
      have hcnt := hps.cnt
      by_cases hq1 : l[k] = (1, 1)
      · obtain ⟨f', hps'⟩ := hps.skip hkl hq1
        rw [hq1] at py0 py1
        have HPS' := Lib.hid hps'
        clear hps hps' hq1 hbq
        go_wp2
        go_roundw
        case rel => exact ⟨k + 1, f', _, np, cp, l, Ao, no, co, out, by go_num, rfl, rfl, by omega, HPS'.out.alloc sB _⟩
        case measure => simp [intOf, lenV]; omega
      · have HNX := Lib.hid (fun (w' : World) (Ap' Ao' : Option Addr) (cp' co' : Nat) h1 h2 h3 h4 => hps.next (w' := w') (Ap' := Ap') (Ao' := Ao') (cp' := cp') (co' := co') hkl hq1 h1 h2 h3 h4)
        have hC := plain_can hbq hq1
        have hne := mul_ne1 hbq hq1
        obtain ⟨u1, u2, v1, v2⟩ := barB_true hbq
        have m1 := Int.mul_le_mul u1 v1 (by omega) (by omega)
        have m2 := Int.mul_le_mul u2 v2 (by omega) (by omega)
        have wm : IntKind.i64.wrap ((l[k]).1 * (l[k]).2) = (l[k]).1 * (l[k]).2 := IntWalk.i64_in _ (by omega)
        have olt := fun q (h : (Value.slice Ao no co).ownBlock = some q) => hps.ownO.lt q h
        have hOA := (hps.ownO.alloc (.cells #[.int .i64 (l[k]).1, .int .i64 (l[k]).2] 27)).alloc (.cells #[.int .i64 k, .bool (decide (1 < (l[k]).1)), .int .i64 1] 43)
        have hPA := (hps.ownP.alloc (.cells #[.int .i64 (l[k]).1, .int .i64 (l[k]).2] 27)).alloc (.cells #[.int .i64 k, .bool (decide (1 < (l[k]).1)), .int .i64 1] 43)
        have hap := hps.apart g rfl
        have hbA : Below w1.heap.size wr ((wr.alloc (.cells #[.int .i64 (l[k]).1, .int .i64 (l[k]).2] 27)).alloc (.cells #[.int .i64 k, .bool (decide (1 < (l[k]).1)), .int .i64 1] 43)) := ((Below.refl _ _).alloc sB _).alloc (by simp; omega) _
        have hset : ∀ q : Int × Int, (((pairCells l).set (k * 2) (.int .i64 q.1)).set (k * 2 + 1) (.int .i64 q.2)) = pairCells (l.set k q) := fun q => set_pairCells l k hkl q.1 q.2
        have HSET := Lib.hid hset
        have HPL : Hid (plainSet l k l[k] = l.set k (part1 (l[k]).1 (l[k]).2 (decide (1 < (l[k]).1)) 1) ++ [part2 (l[k]).1 (l[k]).2 (decide (1 < (l[k]).1)) 1]) := rfl
        generalize l[k] = q at *
        obtain ⟨u, v⟩ := q
        simp only at py0 py1 hbq hC hne wm HPL
        generalize hp1 : part1 u v (decide (1 < u)) 1 = p1 at *
        generalize hp2 : part2 u v (decide (1 < u)) 1 = p2 at *
        obtain ⟨a1, a2⟩ := p1
        obtain ⟨b1, b2⟩ := p2
        have hbr : ∀ wx, Calls Try.prog 26 #[bar2 u v, .bool (decide (1 < u)), .int .i64 1] wx fun e w' => e = .returned (.tuple #[bar2 a1 a2, bar2 b1 b2]) ∧ Below wx.heap.size wx w' := fun wx => by
          have h := brParts_any u v (decide (1 < u)) 1 wx hbq hC
          rw [hp1, hp2] at h
          exact h
        have HBR := Lib.hid hbr
        have HOA := Lib.hid hOA
        have HPA := Lib.hid hPA
        have HBA := Lib.hid hbA
        have HAP := Lib.hid hap
        have HOL := Lib.hid olt
        have hno : no ≤ 1000 := by omega
        clear hps hq1 hbq hPA hbA hap olt hOA hset hbr hp1 hp2 hC u1 u2 v1 v2 m1 m2
        go_wp2_with fail
        refine (HBR.out _).mono ?_; rintro e w9 ⟨rfl, hb9⟩
        have s9 := hb9.size
        simp at s9
        have j0 := (hb9.cell (p := ⟨wr.heap.size + 1, 0, none⟩) (by simp)).trans (show _ = some (.int .i64 (k : Int)) by simp [go_sem])
        have j1 := (hb9.cell (p := ⟨wr.heap.size + 1, 1, none⟩) (by simp)).trans (show _ = some (.bool (decide (1 < u))) by simp [go_sem])
        have j2 := (hb9.cell (p := ⟨wr.heap.size + 1, 2, none⟩) (by simp)).trans (show _ = some (.int .i64 1) by simp [go_sem])
        have hP9 := ((own_later HPA.out hb9 (Nat.le_refl _)).alloc (.cells #[.int .i64 a1, .int .i64 a2] 27)).alloc (.cells #[.int .i64 b1, .int .i64 b2] 27)
        have hO9 := ((own_later HOA.out hb9 (Nat.le_refl _)).alloc (.cells #[.int .i64 a1, .int .i64 a2] 27)).alloc (.cells #[.int .i64 b1, .int .i64 b2] 27)
        have hbW : Below w1.heap.size wr ((w9.alloc (.cells #[.int .i64 a1, .int .i64 a2] 27)).alloc (.cells #[.int .i64 b1, .int .i64 b2] 27)) := ((HBA.out.trans (hb9.mono (by simp; omega))).alloc (by omega) _).alloc (by simp; omega) _
        have d0 : ((w9.alloc (.cells #[.int .i64 a1, .int .i64 a2] 27)).alloc (.cells #[.int .i64 b1, .int .i64 b2] 27)).cell? ⟨w9.heap.size, 0, none⟩ = some (.int .i64 a1) := by rw [World.cell?_alloc_lt _ _ _ (by simp)]; simp [go_sem]
        have d1 : ((w9.alloc (.cells #[.int .i64 a1, .int .i64 a2] 27)).alloc (.cells #[.int .i64 b1, .int .i64 b2] 27)).cell? ⟨w9.heap.size, 1, none⟩ = some (.int .i64 a2) := by rw [World.cell?_alloc_lt _ _ _ (by simp)]; simp [go_sem]
        have d2 : ((w9.alloc (.cells #[.int .i64 a1, .int .i64 a2] 27)).alloc (.cells #[.int .i64 b1, .int .i64 b2] 27)).cell? ⟨w9.heap.size + 1, 0, none⟩ = some (.int .i64 b1) := by simp [go_sem]
        have d3 : ((w9.alloc (.cells #[.int .i64 a1, .int .i64 a2] 27)).alloc (.cells #[.int .i64 b1, .int .i64 b2] 27)).cell? ⟨w9.heap.size + 1, 1, none⟩ = some (.int .i64 b2) := by simp [go_sem]
        have d4 : ((w9.alloc (.cells #[.int .i64 a1, .int .i64 a2] 27)).alloc (.cells #[.int .i64 b1, .int .i64 b2] 27)).cell? ⟨wr.heap.size + 1, 0, none⟩ = some (.int .i64 k) := (World.cell?_alloc_lt _ _ ⟨wr.heap.size + 1, 0, none⟩ (by simp; omega)).trans ((World.cell?_alloc_lt _ _ ⟨wr.heap.size + 1, 0, none⟩ (by show wr.heap.size + 1 < w9.heap.size; omega)).trans j0)
        have d5 : ((w9.alloc (.cells #[.int .i64 a1, .int .i64 a2] 27)).alloc (.cells #[.int .i64 b1, .int .i64 b2] 27)).cell? ⟨wr.heap.size + 1, 1, none⟩ = some (.bool (decide (1 < u))) := (World.cell?_alloc_lt _ _ ⟨wr.heap.size + 1, 1, none⟩ (by simp; omega)).trans ((World.cell?_alloc_lt _ _ ⟨wr.heap.size + 1, 1, none⟩ (by show wr.heap.size + 1 < w9.heap.size; omega)).trans j1)
        have d6 : ((w9.alloc (.cells #[.int .i64 a1, .int .i64 a2] 27)).alloc (.cells #[.int .i64 b1, .int .i64 b2] 27)).cell? ⟨wr.heap.size + 1, 2, none⟩ = some (.int .i64 1) := (World.cell?_alloc_lt _ _ ⟨wr.heap.size + 1, 2, none⟩ (by simp; omega)).trans ((World.cell?_alloc_lt _ _ ⟨wr.heap.size + 1, 2, none⟩ (by show wr.heap.size + 1 < w9.heap.size; omega)).trans j2)
        have szW : ((w9.alloc (.cells #[.int .i64 a1, .int .i64 a2] 27)).alloc (.cells #[.int .i64 b1, .int .i64 b2] 27)).heap.size = w9.heap.size + 2 := by simp
        obtain ⟨b'', o'', eg, _, hx', y0, y1⟩ := (Rd.of_own hP9).pair hkn
        simp only [Option.some.injEq, Addr.mk.injEq, and_true] at eg
        obtain ⟨rfl, rfl⟩ := eg
        simp only [Nat.zero_add] at y0 y1
        have f1 := hP9.frozenAt (k * 2)
        have f2 := hP9.frozenAt (k * 2 + 1)
        have st1 := hP9.stored (k * 2) (.int .i64 a1)
        have st2 := st1.1.stored (k * 2 + 1) (.int .i64 a2)
        have hgs := gbt st1.2 st2.2
        have hown3 := st2.1
        rw [HSET.out (a1, a2)] at hown3
        have HD4 := Lib.hid (And.intro d4 (And.intro d5 d6))
        clear hb9 hP9 st1 st2 j0 j1 j2 HBA HPA HOA HSET HBR py0 py1 d4 d5 d6
        have hneg : w9.heap.size + 1 ≠ g := by omega
        have hneg2 : wr.heap.size + 1 ≠ g := by omega
        have hbS : Below w1.heap.size wr ((((w9.alloc (.cells #[.int .i64 a1, .int .i64 a2] 27)).alloc (.cells #[.int .i64 b1, .int .i64 b2] 27)).setCell ⟨g, k * 2, none⟩ (.int .i64 a1)).setCell ⟨g, k * 2 + 1, none⟩ (.int .i64 a2)) := bset hg1 _ (bset hg1 _ hbW)
        have HGS := Lib.hid hgs
        have HO9 := Lib.hid hO9
        have HBS := Lib.hid hbS
        have e2' : ((((w9.alloc (.cells #[.int .i64 a1, .int .i64 a2] 27)).alloc (.cells #[.int .i64 b1, .int .i64 b2] 27)).setCell ⟨g, k * 2, none⟩ (.int .i64 a1)).setCell ⟨g, k * 2 + 1, none⟩ (.int .i64 a2)).cell? ⟨w9.heap.size + 1, 0, none⟩ = some (.int .i64 b1) := by (repeat (first | (with_reducible refine cell_drew ?_) | (with_reducible refine cell_drewN _ ?_) | ((with_reducible refine cell_alloc ?_ ?_); · first | omega | (simp; done) | (simp; omega) | assumption) | ((with_reducible refine cell_set ?_ ?_); · first | (intro e; injection e; omega) | (intro e; simp at e; done) | (intro e; simp at e; omega)))); assumption
        have e3' : ((((w9.alloc (.cells #[.int .i64 a1, .int .i64 a2] 27)).alloc (.cells #[.int .i64 b1, .int .i64 b2] 27)).setCell ⟨g, k * 2, none⟩ (.int .i64 a1)).setCell ⟨g, k * 2 + 1, none⟩ (.int .i64 a2)).cell? ⟨w9.heap.size + 1, 1, none⟩ = some (.int .i64 b2) := by (repeat (first | (with_reducible refine cell_drew ?_) | (with_reducible refine cell_drewN _ ?_) | ((with_reducible refine cell_alloc ?_ ?_); · first | omega | (simp; done) | (simp; omega) | assumption) | ((with_reducible refine cell_set ?_ ?_); · first | (intro e; injection e; omega) | (intro e; simp at e; done) | (intro e; simp at e; omega)))); assumption
        clear hgs hO9 hbW hbS d2 d3
        go_wp2_with (at_builtin; refine wpList_append_own_at _ rfl (.tmp 48) (.tmp 50) 41 rfl w1.heap.size 27 i1 (bar2 0 0) 2 16 Try.underlying41 hi1 hy0 hy1 hy2 rfl (by decide) _ _ _ rfl (hown3.alloc _) ⟨w9.heap.size + 1 + 1, 0, none⟩ 1 1 [.int .i64 b1, .int .i64 b2] rfl rfl ?c1 ?c2 ?c3 ?c4 ?c5 ?_)
        case c1 =>
          intro j z hj
          have h := new2 ((((w9.alloc (.cells #[.int .i64 a1, .int .i64 a2] 27)).alloc (.cells #[.int .i64 b1, .int .i64 b2] 27)).setCell ⟨g, k * 2, none⟩ (.int .i64 a1)).setCell ⟨g, k * 2 + 1, none⟩ (.int .i64 a2)) 27 _ _ j z hj
          rw [show ((((w9.alloc (.cells #[.int .i64 a1, .int .i64 a2] 27)).alloc (.cells #[.int .i64 b1, .int .i64 b2] 27)).setCell ⟨g, k * 2, none⟩ (.int .i64 a1)).setCell ⟨g, k * 2 + 1, none⟩ (.int .i64 a2)).heap.size = w9.heap.size + 1 + 1 by simp] at h
          exact h
        case c2 => exact two_oneCell _ _ _ _
        case c3 => simp only [maxLen]; omega
        case c4 => omega
        case c5 => simp; omega
        · intro v' wB hown' hgrow _ hat
          obtain ⟨A', c', rfl⟩ := own_slice hown'
          have hWB := gbt (gbt HGS.out (World.grownBy_alloc _ _ _)) hgrow
          obtain ⟨d4, d5, d6⟩ := HD4.out
          have hne8 : some (wr.heap.size + 1) ≠ (Value.slice (some ⟨g, 0, none⟩) np cp).ownBlock := fun e => hneg2 (by simpa [Value.ownBlock] using e)
          have k0 := hWB.cell (a := ⟨wr.heap.size + 1, 0, none⟩) d4 hne8
          have k1 := hWB.cell (a := ⟨wr.heap.size + 1, 1, none⟩) d5 hne8
          have k2 := hWB.cell (a := ⟨wr.heap.size + 1, 2, none⟩) d6 hne8
          have hOB := HO9.out.kept hWB (.inr fun e => HAP.out (e.trans rfl))
          have hsB := hWB.size
          rw [szW] at hsB
          have hbB : Below w1.heap.size wr wB := (HBS.out.alloc (by simp; omega) _).grown hgrow (by simp; omega) (fun q hq => (by simpa [Value.ownBlock] using hq : g = q) ▸ hg1)
          have hPlt := fun q (h : (Value.slice A' (np + 1) c').ownBlock = some q) => (hown'.lt q h).2
          have hPO : ∀ q, (Value.slice A' (np + 1) c').ownBlock = some q → (Value.slice Ao no co).ownBlock ≠ some q := by
            intro q hq e
            rcases hat with h | h
            · rw [h] at hq
              have h1 : g = q := by simpa [Value.ownBlock] using hq
              exact HAP.out (h1 ▸ e)
            · rw [h] at hq
              simp at hq
              have := (HOL.out q e).2
              omega
          have HP3 := Lib.hid hown'
          have HPL2 := Lib.hid hPlt
          have HPO := Lib.hid hPO
          have HBB := Lib.hid hbB
          clear hown' hgrow hat hWB d4 d5 d6 hPlt hPO hbB y0 y1 f1 f2 e2' e3' d0 d1 hown3 HGS HO9 HBS HD4 szW
          go_wp2_with (at_builtin; refine wpList_append_own_at _ rfl (.tmp 52) (.tmp 54) 24 rfl w1.heap.size 43 i0 (brkO 0 false 0) 3 24 Try.underlying24 hi hz0 hz1 hz2 rfl (by decide) _ _ _ rfl (hOB.alloc _) ⟨wB.heap.size, 0, none⟩ 1 1 [.int .i64 k, .bool (decide (1 < u)), .int .i64 1] rfl rfl ?c1 ?c2 ?c3 ?c4 ?c5 ?_)
          case c1 => exact new3 _ _ _ _ _
          case c2 => exact three_oneCell _ _ _
          case c3 => simp only [maxLen]; omega
          case c4 => omega
          case c5 => simp; omega
          · intro v'' wC hownC hgrowC _ hatC
            obtain ⟨A'', c'', rfl⟩ := own_slice hownC
            have hP5 := (HP3.out.alloc (.cells #[.int .i64 k, .bool (decide (1 < u)), .int .i64 1] 43)).kept hgrowC (by
              rcases hv : (Value.slice A' (np + 1) c').ownBlock with _ | q
              · exact .inl rfl
              · exact .inr fun e => HPO.out q hv e.symm)
            have ha5 : ∀ q, (Value.slice A' (np + 1) c').ownBlock = some q → (Value.slice A'' (no + 1) c'').ownBlock ≠ some q := by
              intro q hq e
              rcases hatC with h | h
              · exact HPO.out q hq (h ▸ e)
              · rw [h] at e
                simp at e
                have := HPL2.out q hq
                omega
            have hbC : Below w1.heap.size wr wC := (HBB.out.alloc (by omega) _).grown hgrowC (by simp; omega) (fun q hq => (HOL.out q hq).1)
            have hP6 : wC.ownsRow w1.heap.size 27 2 (.slice A' (np + 1) c') (np + 1) (pairCells (plainSet l k (u, v))) := by
              have e : plainSet l k (u, v) = l.set k (a1, a2) ++ [(b1, b2)] := HPL
              rw [e, pairCells_append]
              exact hP5
            rw [← tripCells_snoc] at hownC
            obtain ⟨f', hps', hk'⟩ := HNX.out wC A' A'' c' c'' hP6 hownC ha5 hbC
            have HPS' := Lib.hid hps'
            clear hps' hk' ha5 hownC hP5 hP6 hbC hgrowC hatC k0 k1 k2 HP3 HPL2 HPO HBB HNX hOB
            go_wp2
            go_roundw
            case rel => exact ⟨k, f', A', np + 1, c', _, A'', no + 1, c'', _, rfl, rfl, rfl, by omega, HPS'.out⟩
            case measure => simp [intOf, lenV]; omega
    · have hke : k = np := by omega
      have hfin := hps.done (by omega)
      have hown := hps.ownO
      rw [hfin] at hown
      have hbel := hps.bel
      clear hps hfin
      go_wp2
      go_ret2
      exact ⟨Ao, no, co, rfl, own_base hown s1b, BW1.out.trans (hbel.mono s1b)⟩

set_option maxRecDepth 100000 in
set_option maxHeartbeats 1000000 in
theorem sPlainBreaks_any (x y : Int) (w : World) :
    Calls Try.prog 9 #[bar2 x y] w fun e w' => ∃ A n c, e = .returned (.tuple #[.slice A n c, .bool (barB x y)]) ∧ w'.ownsRow w.heap.size 43 3 (.slice A n c) n (tripCells (plainR x y)) ∧ Below w.heap.size w w' := by
  cases hB : barB x y
  · rw [show plainR x y = [] by simp [plainR, hB]]
    go_enter Try.func9, Try.ntmps9
    go_wp2_with fail
    refine (brGood_any _ _ _).mono ?_; rintro e w1 ⟨rfl, hb1⟩; have s1 := hb1.size; obtain ⟨hc1, hf1⟩ := bcell hb1; have z1_w0 : w.heap.size < w1.heap.size := (by have q := s1; first | omega | (simp at q; omega))
    go_wp2
    go_ret2
    exact ⟨none, 0, 0, rfl, World.ownsRow_nil _ _ _ _, by (repeat (first | (with_reducible exact Below.refl _ _) | (with_reducible assumption) | (with_reducible refine Below.drew ?_) | ((with_reducible refine balloc ?_ _ ?_); · (first | (simp; done) | (simp; omega) | omega)) | ((with_reducible refine bset ?_ _ ?_); · (first | (simp; done) | (simp; omega) | omega)) | (with_reducible refine bdrewN _ ?_) | ((with_reducible refine bcall ?_ (by assumption) ?_); · (first | (simp; done) | (simp; omega) | omega))))⟩
  · exact sPlainBreaks_yes x y w hB

theorem length_plainF : ∀ (f k : Nat) (l : List (Int × Int)), (plainF f k l).length ≤ f
  | 0, _, _ => by simp [plainF]
  | f + 1, k, l => by
    rw [plainF]
    split
    · split
      · have := length_plainF f (k + 1) l; omega
      · have := length_plainF f k (plainSet l k l[k]); simp only [List.length_cons]; omega
    · simp
theorem length_plainR (x y : Int) : (plainR x y).length ≤ 288 := by
  unfold plainR
  split
  · rename_i hB
    obtain ⟨x1, x2, y1, y2⟩ := barB_true hB
    have h1 := length_plainF (2 * (x * y).toNat) 0 [(x, y)]
    have h2 : x * y ≤ 12 * 12 := Int.mul_le_mul x2 y2 (by omega) (by omega)
    omega
  · simp

end Go.Proofs.Ytjfedmcejeeocaa
