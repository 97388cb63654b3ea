/-
  Contracts: PoorestPiece of the model and of the program.
-/
import Derived.Test.YtfbmnaepobhnkaaPieceS
import Derived.Test.YtfbmnaepobhnkaaShares
import Derived.Test.YtfbmnaepobhnkaaCanS
import Derived.Test.YtfbmnaepobhnkaaRegR
import Derived.StillTailTactics
namespace Go.Proofs.Ytfbmnaepobhnkaa
open Go.RowKit
set_option linter.unusedVariables false

def pieceOk (ss : List ByteArray) (t : Int) : Bool := nutsB ss && shareBQ t ((nutW ss * ss.length : Nat) : Int)
def pieceV (ss : List ByteArray) (t : Int) : Int := if pieceOk ss t then pc ss 0 0 (nutW ss) ss.length t.toNat else 0
abbrev okP (v : Int) (b : Bool) : Value := .tuple #[.int .i64 v, .bool b]
/-- what holds when the first parts are done -/
def PieceRel (ss : List ByteArray) (W n N gm : Nat) (w4 : World) (i : Value) (wr : World) : Prop :=
  ∃ (k m : Nat) (M : M5), k ≤ N ∧ i = .int .i64 k ∧ m ≤ k ∧ MapP wr gm m M ∧ Hid (∀ x y a b : Nat, (((x : Int), (y : Int), (a : Int), (b : Int)) : Quad) ∈ (barParts W n W).take k → ∀ t, t < 6 → M x y a b t = pr ss x y a b t) ∧ Chg (fun q => q = gm) w4 wr
theorem piece_cases {p : Prop} (ss : List ByteArray) (n : Nat) (t : Int) (hl : ss.length = n)
    (h1 : nutsB ss = false → pieceOk ss t = false → p)
    (h2 : NB ss (nutW ss) n → nutsB ss = true → shareBQ t ((nutW ss * n : Nat) : Int) = false → pieceOk ss t = false → p)
    (h3 : NB ss (nutW ss) n → nutsB ss = true → shareBQ t ((nutW ss * n : Nat) : Int) = true → pieceOk ss t = true → p) : p := by
  cases hB : nutsB ss
  · exact h1 hB (by simp [pieceOk, hB])
  · have hb := NB.of hB
    rw [hl] at hb
    cases h : shareBQ t ((nutW ss * n : Nat) : Int)
    · exact h2 hb hB h (by simp only [pieceOk, hl, h, Bool.and_false])
    · exact h3 hb hB h (by simp only [pieceOk, hl, h, hB, Bool.and_self])
theorem wprod {a b : Nat} (ha : a ≤ 8) (hb : b ≤ 8) : wrap64 ((a : Int) * (b : Int)) = ((a * b : Nat) : Int) := by
  have h : a * b ≤ 8 * 8 := Nat.mul_le_mul ha hb
  rw [← Int.natCast_mul]
  generalize a * b = m at *
  exact IntWalk.wrap64_in _ (by omega)

theorem arr6_idx1 (F : Nat → Int) (w : World) : (Instr.index 72 (arr6 F) (.int .i64 1)).run Try.prog w = .ok (.int .i64 (F 1)) w := by kernel_rfl
theorem arr6_idx2 (F : Nat → Int) (w : World) : (Instr.index 72 (arr6 F) (.int .i64 2)).run Try.prog w = .ok (.int .i64 (F 2)) w := by kernel_rfl
theorem arr6_idx3 (F : Nat → Int) (w : World) : (Instr.index 72 (arr6 F) (.int .i64 3)).run Try.prog w = .ok (.int .i64 (F 3)) w := by kernel_rfl
theorem arr6_idx4 (F : Nat → Int) (w : World) : (Instr.index 72 (arr6 F) (.int .i64 4)).run Try.prog w = .ok (.int .i64 (F 4)) w := by kernel_rfl
theorem arr6_idx5 (F : Nat → Int) (w : World) : (Instr.index 72 (arr6 F) (.int .i64 5)).run Try.prog w = .ok (.int .i64 (F 5)) w := by kernel_rfl

set_option maxRecDepth 100000 in
set_option maxHeartbeats 2000000 in
theorem sPoorestPiece_any (A : Option Addr) (n c : Nat) (ss : List ByteArray) (t : Int) (w : World) (hr : Rd w 1 A n (strCells ss)) :
    Calls Try.prog 16 #[.slice A n c, .int .i64 t] w fun e w' => e = .returned (okP (pieceV ss t) (pieceOk ss t)) ∧ w = w' := by
  refine piece_cases ss n t hr.slen ?_ ?_ ?_
  · intro hB hk
    rw [show pieceV ss t = 0 by simp [pieceV, hk], hk]
    clear hk
    go_enter Try.func16, Try.ntmps16
    go_wp2_with fail
    refine (ntGood_any _ _ _ _ _ hr).mono ?_; rintro e w1 ⟨rfl, rfl⟩
    rw [hB]
    go_wp2
    refine bodyPost_ret (v := okP 0 false) (by simp [results, Try.results16, go_sem]) rfl ⟨rfl, rfl⟩
  · intro hb hB hS hk
    rw [show pieceV ss t = 0 by simp [pieceV, hk], hk]
    clear hk
    have hpr := wprod hb.h8 hb.w8
    rw [Nat.mul_comm] at hpr
    have HSH : Hid (shareBQ t ((nutW ss : Int) * (n : Int)) = false) := by rw [Int.natCast_mul] at hS; exact hS
    clear hS
    generalize nutW ss = W at *
    obtain ⟨bb, o, rfl, hbl, s0, p0, hs0, _⟩ := hr.nut0 hb
    have hs := hs0.out
    subst hs
    have hn1 := hb.h1
    go_enter Try.func16, Try.ntmps16
    go_wp2_with fail
    refine (ntGood_any _ _ _ _ _ hr).mono ?_; rintro e w1 ⟨rfl, rfl⟩
    rw [hB]
    go_wp2_with fail
    refine (ntSharersQ_any _ _ _ ss _ _ _ hr).mono ?_; rintro e w1 ⟨rfl, rfl⟩
    rw [hB, HSH.out]
    go_wp2
    refine bodyPost_ret (v := okP 0 false) (by simp [results, Try.results16, go_sem]) rfl ⟨rfl, rfl⟩
  · intro hb hB hS hk
    have hl := hr.slen
    rw [show pieceV ss t = pc ss 0 0 (nutW ss) n t.toNat by simp [pieceV, hk, hl], hk]
    clear hk hl
    have hpr := wprod hb.h8 hb.w8
    rw [Nat.mul_comm] at hpr
    have HSH : Hid (shareBQ t ((nutW ss : Int) * (n : Int)) = true) := by rw [Int.natCast_mul] at hS; exact hS
    obtain ⟨t1, t2, t3⟩ := share_boundsQ hS
    clear hS
    generalize nutW ss = W at *
    have hn1 := hb.h1
    have hW1 := hb.w1
    have HPC := Lib.hid (fun (A : Option Addr) (hr : Rd w 1 A n (strCells ss)) => ntPiece_any A n c W ss w hr hb t.toNat 0 0 W n t.toNat 0 0 W n t (Nat.le_refl _) rfl rfl (by simp) (by simp) (by omega) (by omega) (by omega) hW1 hn1 (by omega) (by omega))
    generalize hpc : pc ss 0 0 W n t.toNat = v at *
    clear hpc
    obtain ⟨bb, o, rfl, hbl, s0, p0, hs0, _⟩ := hr.nut0 hb
    have hs := hs0.out
    subst hs
    go_enter Try.func16, Try.ntmps16
    go_wp2_with fail
    refine (ntGood_any _ _ _ _ _ hr).mono ?_; rintro e w1 ⟨rfl, rfl⟩
    rw [hB]
    go_wp2_with fail
    refine (ntSharersQ_any _ _ _ ss _ _ _ hr).mono ?_; rintro e w1 ⟨rfl, rfl⟩
    rw [hB, HSH.out]
    go_wp2_with fail
    refine (HPC.out _ hr).mono ?_; rintro e w1 ⟨rfl, rfl⟩
    go_wp2
    refine bodyPost_ret (v := okP v true) (by simp [results, Try.results16, go_sem]) rfl ⟨rfl, rfl⟩

set_option maxRecDepth 100000 in
set_option maxHeartbeats 8000000 in
theorem poorestPiece_any (A : Option Addr) (n c : Nat) (ss : List ByteArray) (t : Int) (w : World) (hr : Rd w 1 A n (strCells ss)) :
    Calls Try.prog 18 #[.slice A n c, .int .i64 t] w fun e w' => e = .returned (okP (pieceV ss t) (pieceOk ss t)) ∧ Below w.heap.size w w' := by
  refine piece_cases ss n t hr.slen ?_ ?_ ?_
  · intro hB hk
    rw [show pieceV ss t = 0 by simp [pieceV, hk], hk]
    clear hk
    go_enter Try.func18, Try.ntmps18
    go_wp2_with fail
    refine (areNuts_any _ _ _ _ _ hr).mono ?_; rintro e w1 ⟨rfl, rfl⟩
    rw [hB]
    go_wp2
    refine bodyPost_ret (v := okP 0 false) (by simp [results, Try.results18, go_sem]) rfl ⟨rfl, Below.refl _ _⟩
  · intro hb hB hS hk
    rw [show pieceV ss t = 0 by simp [pieceV, hk], hk]
    clear hk
    have hpr := wprod hb.w8 hb.h8
    have HSH : Hid (shareBQ t ((nutW ss : Int) * (n : Int)) = false) := by rw [Int.natCast_mul] at hS; exact hS
    clear hS
    generalize nutW ss = W at *
    go_enter Try.func18, Try.ntmps18
    go_wp2_with fail
    refine (areNuts_any _ _ _ _ _ hr).mono ?_; rintro e w1 ⟨rfl, rfl⟩
    rw [hB]
    go_wp2_with fail
    refine (barOf_any _ _ _ W ss _ hr hb).mono ?_; rintro e w1 ⟨rfl, hb1⟩
    have s1 := hb1.size
    go_wp2_with fail
    refine (canShareQ_any _ _ _).mono ?_; rintro e wx ⟨rfl, rfl⟩
    rw [HSH.out]
    go_wp2
    refine bodyPost_ret (v := okP 0 false) (by simp [results, Try.results18, go_sem]) rfl ⟨rfl, hb1.alloc s1 _⟩
  · intro hb hB hS hk
    have hl := hr.slen
    rw [show pieceV ss t = pc ss 0 0 (nutW ss) n t.toNat by simp [pieceV, hk, hl], hk]
    clear hk hl
    have hpr := wprod hb.w8 hb.h8
    have HSH : Hid (shareBQ t ((nutW ss : Int) * (n : Int)) = true) := by rw [Int.natCast_mul] at hS; exact hS
    obtain ⟨t1, t2, t3⟩ := share_boundsQ hS
    clear hS
    generalize nutW ss = W at *
    have hn8 := hb.h8
    have hn1 := hb.h1
    have hW8 := hb.w8
    have hW1 := hb.w1
    have hmk := @run_makeMap Try.prog
    have zc : zc_64 = cornA ss W 0 0 := by rw [cornA_zero ss W]; kernel_rfl
    have HZ := Lib.hid zc
    clear zc
    have HR := Lib.hid hr
    go_enter Try.func18, Try.ntmps18
    go_wp2_with fail
    refine (areNuts_any _ _ _ _ _ hr).mono ?_; rintro e w1 ⟨rfl, rfl⟩
    rw [hB]
    go_wp2_with fail
    refine (barOf_any _ _ _ W ss _ hr hb).mono ?_; rintro e w1 ⟨rfl, hb1⟩
    have bl1 : Below w.heap.size w (w1.alloc (.cells #[.int .i64 W, .int .i64 n] 26)) := hb1.alloc hb1.size _
    have s1 := hb1.size
    clear hr
    go_wp2_with fail
    refine (canShareQ_any _ _ _).mono ?_; rintro e wx ⟨rfl, rfl⟩
    rw [HSH.out]
    go_wp2_with fail
    refine (corners_any _ _ _ W ss _ (HR.out.later bl1 (Nat.le_refl _)) hb).mono ?_; rintro e w2 ⟨rfl, hb2⟩
    have s2 := hb2.size
    simp at s2
    have bl2 : Below w.heap.size w w2 := bcall (by simp; omega) hb2 bl1
    have c0 : w2.cell? ⟨w1.heap.size, 0, none⟩ = some (.int .i64 W) := (hb2.cell (p := ⟨w1.heap.size, 0, none⟩) (by simp)).trans (by simp [go_sem])
    have c1 : w2.cell? ⟨w1.heap.size, 1, none⟩ = some (.int .i64 n) := (hb2.cell (p := ⟨w1.heap.size, 1, none⟩) (by simp)).trans (by simp [go_sem])
    clear hb2 hb1 bl1
    have hR0 := RowAt.new w2 zc_64
    have hzs : (zc_64).size = 81 := by kernel_rfl
    have bl3 : Below w.heap.size w ((w2.alloc (.cells zc_64 64)).setRow w2.heap.size (cornA ss W n 0)) := below_setRowN (bl2.alloc bl2.size _) bl2.size _
    have rw3 : RowAt ((w2.alloc (.cells zc_64 64)).setRow w2.heap.size (cornA ss W n 0)) w2.heap.size (cornA ss W n 0) := setRow_heap _ w2.heap.size _ (cornA ss W n 0) _ _ hR0
    have sz3 : ((w2.alloc (.cells zc_64 64)).setRow w2.heap.size (cornA ss W n 0)).heap.size = w2.heap.size + 1 := by simp [World.setRow]
    have hne : w1.heap.size < w2.heap.size := by omega
    have cb : ∀ q, ((w2.alloc (.cells zc_64 64)).setRow w2.heap.size (cornA ss W n 0)).cell? ⟨w1.heap.size, q, none⟩ = w2.cell? ⟨w1.heap.size, q, none⟩ := fun q => by
      rw [World.cell?_of_block (w := (w2.alloc (.cells zc_64 64))) (by rw [setRow_other _ _ _ _ (by show w1.heap.size ≠ w2.heap.size; omega)])]
      exact World.cell?_alloc_lt _ _ _ hne
    have d0 := (cb 0).trans c0
    have d1 := (cb 1).trans c1
    have h81 : (Try.prog.info? 64).map (·.size) = some (cornA ss W n 0).size := by rw [size_cornA]; kernel_rfl
    have ho81 : (zc_64).size = (cornA ss W n 0).size := by rw [size_cornA, hzs]
    have H81 := Lib.hid h81
    have HO81 := Lib.hid ho81
    have HR0 := Lib.hid hR0
    have hW3 : w1.heap.size < ((w2.alloc (.cells zc_64 64)).setRow w2.heap.size (cornA ss W n 0)).heap.size := by omega
    have SZ3 := Lib.hid sz3
    clear hzs cb h81 ho81 hR0 c0 c1 bl2 sz3
    have hzf := fun wx => zero_64 wx; have hze := zc_64_ne
    go_wp2_with (first | (refine wpList_store_row rfl 64 (.tmp 7) (.tmp 25) rfl w2.heap.size (cornA ss W n 0) rfl rfl _ _ HR0.out H81.out HO81.out (oneCell_cornA _ _ _ _) ?_; clear H81 HO81 HR0; generalize (w2.alloc (.cells zc_64 64)).setRow w2.heap.size (cornA ss W n 0) = W3 at *))
    have sz3 := SZ3.out
    have hS3 : w2.heap.size < W3.heap.size := by omega
    have hw3 : w.heap.size ≤ W3.heap.size := bl3.size
    have bl4 : Below w.heap.size w (W3.alloc (.map #[] 0)) := bl3.alloc hw3 _
    refine (allParts_any W n _ hW1 hW8 hn1 hn8).mono ?_; rintro e w4 ⟨A4, N, c4, rfl, own4, hb4⟩
    have s4 := hb4.size
    simp at s4
    have m4 : MapP w4 W3.heap.size 0 (fun _ _ _ _ _ => 0) := (MapP.made W3 (fun _ _ _ _ _ => 0) (fun _ _ _ _ _ => rfl)).below hb4 (by simp)
    have r4 : RowAt w4 w2.heap.size (cornA ss W n 0) := (rw3.alloc _).below hb4 (by simp; omega)
    have e0 : w4.cell? ⟨w1.heap.size, 0, none⟩ = some (.int .i64 W) := (hb4.cell (p := ⟨w1.heap.size, 0, none⟩) (by simp; omega)).trans ((World.cell?_alloc_lt _ _ _ hW3).trans d0)
    have e1 : w4.cell? ⟨w1.heap.size, 1, none⟩ = some (.int .i64 n) := (hb4.cell (p := ⟨w1.heap.size, 1, none⟩) (by simp; omega)).trans ((World.cell?_alloc_lt _ _ _ hW3).trans d1)
    have bl5 : Below w.heap.size w w4 := bcall bl4.size hb4 bl4
    have hA4 : ∀ b o, A4 = some ⟨b, o, none⟩ → ¬ b = W3.heap.size := by
      rintro b o rfl
      have h := (own4.lt b rfl).1
      simp at h
      omega
    have hN : (barParts W n W).length = N := by have := own4.1; rw [length_quadCells] at this; omega
    have hNb : N ≤ 4096 := by have := length_barParts W n W hW8 hn8; omega
    have RD4 := Lib.hid (Rd.of_own own4)
    have HN := Lib.hid hN
    have HM4 := Lib.hid m4
    have HR4 := Lib.hid r4
    have HE0 := Lib.hid e0
    have HE1 := Lib.hid e1
    have HB5 := Lib.hid bl5
    have HA4 := Lib.hid hA4
    have z1 : w1.heap.size < w4.heap.size := by omega
    have z2 : w2.heap.size < w4.heap.size := by omega
    have z3 : W3.heap.size < w4.heap.size := by omega
    have z1m : w1.heap.size ≠ W3.heap.size := by omega
    have z2m : w2.heap.size ≠ W3.heap.size := by omega
    have z4 : w.heap.size ≤ w4.heap.size := by omega
    have z5 : w.heap.size ≤ W3.heap.size := hw3
    clear m4 r4 e0 e1 bl5 hA4 hN own4 hb4 bl4 bl3 rw3 sz3 SZ3 hne d0 d1
    generalize w1.heap.size = gw at *
    generalize w2.heap.size = gs at *
    generalize W3.heap.size = gm at *
    clear hS3 hW3 s2 s4 hw3
    go_wp2
    go_loopw [30] (PieceRel ss W n N gm w4) (fun i _ => N - (intOf i).toNat)
    case atStart => exact ⟨0, 0, _, Nat.zero_le _, rfl, Nat.le_refl _, HM4.out, (fun x y a b h => by simp at h), Chg.refl _ _⟩
    case round =>
      clear HM4
      obtain ⟨k, m, M, hk, rfl, hm2, hM, hdone, hC⟩ := hrel
      have hrow := hC.block gs z2 z2m
      have hrow2 : RowAt wr gs (cornA ss W n 0) := hrow.trans HR4.out
      have e0 := hC.cell HE0.out z1m
      have e1 := hC.cell HE1.out z1m
      clear hrow
      by_cases hlt : k < N
      · obtain ⟨bb, o, rfl, hbl, hkx, p0, p1, p2, p3⟩ := (hC.rd RD4.out (fun b o e => HA4.out b o e)).quad hlt
        obtain ⟨x, y, a, b, hq, ha, hb', hxa, hyb⟩ := part_in hkx
        rw [hq] at p0 p1 p2 p3
        have hsub : ∀ x' y' a' b', SubP x y a b x' y' a' b' → ∀ t, t < 6 → M x' y' a' b' t = pr ss x' y' a' b' t := by
          rintro x' y' a' b' ⟨q1, q2, q3, q4, q5, q6, q7⟩
          exact hdone.out x' y' a' b' (part_before hkx hq q1 (by omega) q2 (by omega) q7)
        have hdone2 : ∀ x' y' a' b' : Nat, (((x' : Int), (y' : Int), (a' : Int), (b' : Int)) : Quad) ∈ (barParts W n W).take (k + 1) → ∀ t, t < 6 → updP M x y a b (pr ss x y a b) x' y' a' b' t = pr ss x' y' a' b' t := by
          intro x' y' a' b' hmem t ht
          by_cases e : x' = x ∧ y' = y ∧ a' = a ∧ b' = b
          · obtain ⟨rfl, rfl, rfl, rfl⟩ := e; rw [updP_same]
          · rw [updP_other e]
            rw [List.take_succ_eq_append_getElem hkx, hq] at hmem
            rcases List.mem_append.1 hmem with h | h
            · exact hdone.out x' y' a' b' h t ht
            · exfalso
              have h3 := List.mem_singleton.1 h
              simp only [Prod.mk.injEq] at h3
              omega
        have hlw := hM.lt
        have hgs := hrow2.lt
        have hnm : some wr.heap.size ≠ some gm := by intro h; injection h; omega
        have hns : some gs ≠ some gm := by intro h; injection h; omega
        have hrowA : (wr.alloc (.cells #[.int .i64 x, .int .i64 y, .int .i64 a, .int .i64 b] 70)).heap[gs]? = some (.cells (cornA ss W n 0) 64 (0, 0)) := hrow2.alloc (.cells #[.int .i64 x, .int .i64 y, .int .i64 a, .int .i64 b] 70)
        have hbx : ∀ (i : Nat) (v : Value), #[Value.int .i64 x, .int .i64 y, .int .i64 a, .int .i64 b][i]? = some v → (wr.alloc (.cells #[.int .i64 x, .int .i64 y, .int .i64 a, .int .i64 b] 70)).cell? ⟨wr.heap.size, i, none⟩ = some v := by
          intro i v h
          simp only [World.cell?, World.alloc, Array.getElem?_push_size]
          exact h
        have f0 := hbx 0 _ rfl
        have f1 := hbx 1 _ rfl
        have f2 := hbx 2 _ rfl
        have f3 := hbx 3 _ rfl
        have HNM := Lib.hid hnm
        have HNS := Lib.hid hns
        have HMA := Lib.hid (hM.alloc (.cells #[.int .i64 x, .int .i64 y, .int .i64 a, .int .i64 b] 70))
        have HSUB := Lib.hid hsub
        have HD2 := Lib.hid hdone2
        have HC := Lib.hid hC
        have HWI := Lib.hid (within_part hb x y a b hxa hyb)
        have hgmA : gm < (wr.alloc (.cells #[.int .i64 x, .int .i64 y, .int .i64 a, .int .i64 b] 70)).heap.size := by simp; omega
        have hm100 : m ≤ 100000 := by omega
        have hx100 : x ≤ 100 := by omega
        have hy100 : y ≤ 100 := by omega
        have ha100 : a ≤ 100 := by omega
        have hb100 : b ≤ 100 := by omega
        have hx8 : x + a ≤ 8 := by omega
        have hy8 : y + b ≤ 8 := by omega
        have HSO := Lib.hid (fun (wz : World) hz => sharesOf_any x y a b gm m M ss wz ha hb' hx8 hy8 hz hsub)
        clear hbx hsub hdone2 hM hdone hC hq hrow2 hnm hns
        generalize rect ss x y a b = r at *
        generalize hG : pr ss x y a b = G at *
        go_wp2
        clear p0 p1 p2 p3 e0 e1
        refine wp_region_held_drew (S := (fun w' => w'.heap[gs]? = some (.cells (cornA ss W n 0) 64 (0, 0)) ∧ w'.cell? ⟨wr.heap.size, 0, none⟩ = some (.int .i64 x) ∧ w'.cell? ⟨wr.heap.size, 1, none⟩ = some (.int .i64 y) ∧ w'.cell? ⟨wr.heap.size, 2, none⟩ = some (.int .i64 a) ∧ w'.cell? ⟨wr.heap.size, 3, none⟩ = some (.int .i64 b))) (by kernel_rfl) ?_ (fun hHeld => ?_)
        · ((try dsimp only); (repeat' apply And.intro); all_goals ((repeat (first | (with_reducible refine cell_drew ?_) | (with_reducible refine cell_drewN _ ?_) | ((with_reducible refine cell_alloc ?_ ?_); · first | omega | (simp; done) | (simp; omega) | assumption) | ((with_reducible refine cell_set ?_ ?_); · first | (intro e; injection e; omega) | (intro e; simp at e; done) | (intro e; simp at e; omega)))); first | assumption | (simp; done)))
        refine reg_on (i := 0) (d := 34) (v := ?rv1) rfl rfl (by kernel_rfl) (by kernel_rfl) (by kernel_rfl) (fun _ _ _ h => h) (by rfl) ?ry1 (by assumption) ?rr1
        case ry1 => (intro wz hSw; (try dsimp only at hSw); go_simp; try with_reducible rfl)
        (try simp only [Act.put, List.setIfInBounds_toArray, List.set_cons_zero, List.set_cons_succ])
        refine reg_on (i := 1) (d := 35) (v := ?rv2) rfl rfl (by kernel_rfl) (by kernel_rfl) (by kernel_rfl) (fun _ _ _ h => h) (by rfl) ?ry2 (by assumption) ?rr2
        case ry2 => (intro wz hSw; (try dsimp only at hSw); go_simp; try with_reducible rfl)
        (try simp only [Act.put, List.setIfInBounds_toArray, List.set_cons_zero, List.set_cons_succ])
        refine reg_on (i := 2) (d := 36) (v := ?rv3) rfl rfl (by kernel_rfl) (by kernel_rfl) (by kernel_rfl) (fun _ _ _ h => h) (by rfl) ?ry3 (by assumption) ?rr3
        case ry3 => (intro wz hSw; (try dsimp only at hSw); go_simp; try with_reducible rfl)
        (try simp only [Act.put, List.setIfInBounds_toArray, List.set_cons_zero, List.set_cons_succ])
        refine reg_row (v := .agg (cornA ss W n 0)) (i := 3) (d := 37) rfl rfl (by kernel_rfl) (by kernel_rfl) (by kernel_rfl) (fun _ _ _ h => h) (by rfl) 64 _ rfl (gs) rfl 64 (cornA ss W n 0) (0, 0) _ (fun wz hSw => by (try dsimp only at hSw); go_split_ands; assumption) Try.underlying64 rfl (by rw [size_cornA]; kernel_rfl) rfl (by assumption) ?_; (try simp only [Act.put, List.setIfInBounds_toArray, List.set_cons_zero, List.set_cons_succ])
        refine reg_on (i := 4) (d := 38) (v := ?rv5) rfl rfl (by kernel_rfl) (by kernel_rfl) (by kernel_rfl) (fun _ _ _ h => h) (by rfl) ?ry5 (by assumption) ?rr5
        case ry5 => (intro wz hSw; (try dsimp only at hSw); go_simp; try with_reducible rfl)
        (try simp only [Act.put, List.setIfInBounds_toArray, List.set_cons_zero, List.set_cons_succ])
        refine reg_on (i := 6) (d := 40) (v := ?rv6) rfl rfl (by kernel_rfl) (by kernel_rfl) (by kernel_rfl) (fun _ _ _ h => h) (by rfl) ?ry6 (by assumption) ?rr6
        case ry6 => (intro wz hSw; (try dsimp only at hSw); go_simp; try with_reducible rfl)
        (try simp only [Act.put, List.setIfInBounds_toArray, List.set_cons_zero, List.set_cons_succ])
        refine wpAnyH_ready (rs := [5]) (by kernel_rfl) (by simp) ?_
        refine AllReadyH.cons rfl (fun K hK => ?_) AllReadyH.nil
        go_simp
        go_at_call 41; refine (HWI.out _).mono ?_; rintro e w8 ⟨rfl, hb8⟩; have s8 := hb8.size; (try simp at s8); have hM8 : MapP w8 gm m M := MapP.below (by exact HMA.out.drew) hb8 (by first | exact hgmA | (simp; omega)); have hgm8 : gm < w8.heap.size := (by omega); have hgs8 : gs < w8.heap.size := (by omega); have hwr8 : wr.heap.size < w8.heap.size := (by omega); have ur : w8.heap[gs]? = some (.cells (cornA ss W n 0) 64 (0, 0)) := (hb8.block gs (by first | (simp; done) | (simp; omega) | omega)).trans (by first | assumption | (go_split_ands; assumption)); have u0 : w8.cell? ⟨wr.heap.size, 0, none⟩ = some (.int .i64 x) := (hb8.cell (p := ⟨wr.heap.size, 0, none⟩) (by first | (simp; done) | (simp; omega) | omega)).trans (by first | assumption | (go_split_ands; assumption)); have u1 : w8.cell? ⟨wr.heap.size, 1, none⟩ = some (.int .i64 y) := (hb8.cell (p := ⟨wr.heap.size, 1, none⟩) (by first | (simp; done) | (simp; omega) | omega)).trans (by first | assumption | (go_split_ands; assumption)); have u2 : w8.cell? ⟨wr.heap.size, 2, none⟩ = some (.int .i64 a) := (hb8.cell (p := ⟨wr.heap.size, 2, none⟩) (by first | (simp; done) | (simp; omega) | omega)).trans (by first | assumption | (go_split_ands; assumption)); have u3 : w8.cell? ⟨wr.heap.size, 3, none⟩ = some (.int .i64 b) := (hb8.cell (p := ⟨wr.heap.size, 3, none⟩) (by first | (simp; done) | (simp; omega) | omega)).trans (by first | assumption | (go_split_ands; assumption))
        refine hK.out _ _ ?_ (fun hHeld => ?_)
        · ((try dsimp only); (repeat' apply And.intro); all_goals ((repeat (first | (with_reducible refine cell_drew ?_) | (with_reducible refine cell_drewN _ ?_) | ((with_reducible refine cell_alloc ?_ ?_); · first | omega | (simp; done) | (simp; omega) | assumption) | ((with_reducible refine cell_set ?_ ?_); · first | (intro e; injection e; omega) | (intro e; simp at e; done) | (intro e; simp at e; omega)))); first | assumption | (simp; done)))
        clear hK K
        (try simp only [Act.put, List.setIfInBounds_toArray, List.set_cons_zero, List.set_cons_succ])
        refine wpAnyH_ready (rs := [7]) (by kernel_rfl) (by simp) ?_
        refine AllReadyH.cons rfl (fun K hK => ?_) AllReadyH.nil
        go_simp
        go_at_call 40; refine (HSO.out _ hM8).mono ?_; rintro e w9 ⟨rfl, hb9⟩; have s9 := hb9.size; have hM9 := hM8.below hb9 hgm8; obtain ⟨w10, hrun10, hM10, hg10⟩ := hM9.put hm100 hx100 hy100 ha100 hb100 G; have vr : w9.heap[gs]? = some (.cells (cornA ss W n 0) 64 (0, 0)) := (hb9.block gs (by first | (simp; done) | (simp; omega) | omega)).trans (by first | assumption | (go_split_ands; assumption)); have v0 : w9.cell? ⟨wr.heap.size, 0, none⟩ = some (.int .i64 x) := (hb9.cell (p := ⟨wr.heap.size, 0, none⟩) (by first | (simp; done) | (simp; omega) | omega)).trans (by first | assumption | (go_split_ands; assumption)); have v1 : w9.cell? ⟨wr.heap.size, 1, none⟩ = some (.int .i64 y) := (hb9.cell (p := ⟨wr.heap.size, 1, none⟩) (by first | (simp; done) | (simp; omega) | omega)).trans (by first | assumption | (go_split_ands; assumption)); have v2 : w9.cell? ⟨wr.heap.size, 2, none⟩ = some (.int .i64 a) := (hb9.cell (p := ⟨wr.heap.size, 2, none⟩) (by first | (simp; done) | (simp; omega) | omega)).trans (by first | assumption | (go_split_ands; assumption)); have v3 : w9.cell? ⟨wr.heap.size, 3, none⟩ = some (.int .i64 b) := (hb9.cell (p := ⟨wr.heap.size, 3, none⟩) (by first | (simp; done) | (simp; omega) | omega)).trans (by first | assumption | (go_split_ands; assumption)); have qr : w10.heap[gs]? = some (.cells (cornA ss W n 0) 64 (0, 0)) := (hg10.block gs (by omega) HNS.out).trans vr; have q0 := hg10.cell (a := ⟨wr.heap.size, 0, none⟩) v0 HNM.out; have q1 := hg10.cell (a := ⟨wr.heap.size, 1, none⟩) v1 HNM.out; have q2 := hg10.cell (a := ⟨wr.heap.size, 2, none⟩) v2 HNM.out; have q3 := hg10.cell (a := ⟨wr.heap.size, 3, none⟩) v3 HNM.out
        refine hK.out _ _ ?_ (fun hHeld => ?_)
        · ((try dsimp only); (repeat' apply And.intro); all_goals ((repeat (first | (with_reducible refine cell_drew ?_) | (with_reducible refine cell_drewN _ ?_) | ((with_reducible refine cell_alloc ?_ ?_); · first | omega | (simp; done) | (simp; omega) | assumption) | ((with_reducible refine cell_set ?_ ?_); · first | (intro e; injection e; omega) | (intro e; simp at e; done) | (intro e; simp at e; omega)))); first | assumption | (simp; done)))
        clear hK K
        (try simp only [Act.put, List.setIfInBounds_toArray, List.set_cons_zero, List.set_cons_succ])
        refine wpAnyH_ready (rs := [8]) (by kernel_rfl) (by simp) ?_
        refine AllReadyH.cons rfl (fun K hK => ?_) AllReadyH.nil
        go_simp
        refine hK.out _ _ ?_ (fun hHeld => ?_)
        · ((try dsimp only); (repeat' apply And.intro); all_goals ((repeat (first | (with_reducible refine cell_drew ?_) | (with_reducible refine cell_drewN _ ?_) | ((with_reducible refine cell_alloc ?_ ?_); · first | omega | (simp; done) | (simp; omega) | assumption) | ((with_reducible refine cell_set ?_ ?_); · first | (intro e; injection e; omega) | (intro e; simp at e; done) | (intro e; simp at e; omega)))); first | assumption | (simp; done)))
        clear hK K
        (try simp only [Act.put, List.setIfInBounds_toArray, List.set_cons_zero, List.set_cons_succ])
        refine wpAnyH_done (by kernel_rfl) ?_ _
        have hC10 := ((HC.out.trans (Chg.of_below (((Below.refl wr.heap.size wr).alloc (Nat.le_refl _) (.cells #[.int .i64 x, .int .i64 y, .int .i64 a, .int .i64 b] 70)).drew.trans (hb8.mono (by first | (simp; done) | (simp; omega) | omega))) (Nat.le_refl _))).trans (Chg.of_below hb9 (Nat.le_refl _))).trans (Chg.of_grown hg10 (fun g hg => by injection hg; omega))
        have HM10 := Lib.hid hM10
        have HC10 := Lib.hid hC10
        clear hM10 hC10 hM8 hM9 hrun10 hg10 hb8 hb9
        go_wp2_with fail
        have HGG := Lib.hid hG
        clear hG
        go_roundw
        case rel => exact ⟨k + 1, m + 1, updP M x y a b G, by omega, by go_num, by omega, HM10.out, HD2.out, HC10.out⟩
        case measure => simp [intOf]; omega
      · have hke : k = N := by omega
        have hp64 : W * n ≤ 8 * 8 := Nat.mul_le_mul hW8 hn8
        have hlook : M 0 0 W n t.toNat = pc ss 0 0 W n t.toNat := by
          have h := hdone.out 0 0 W n (by rw [List.take_of_length_le (by have := HN.out; omega)]; exact barParts_mem hW1 (by omega) hn1 (by omega) (Nat.le_refl _)) t.toNat (by omega)
          rw [h]
          exact pr_final hW1 hn1 (by omega) (by omega)
        have k1 : (Instr.lookup 66 (.map (some gm)) (part4 0 0 W n) false).run Try.prog wr = .ok (arr6 (M 0 0 W n)) wr := hM.look (x := 0) (y := 0) (p := W) (q := n) (by omega) (by omega) (by omega) (by omega)
        have hkN : ¬ (k : Int) < (N : Int) := by omega
        have hfin := hC.below HB5.out (fun i hi => by have : i = gm := hi; omega)
        have HFIN := Lib.hid hfin
        have HLK := Lib.hid hlook
        have ht5 : t = 1 ∨ t = 2 ∨ t = 3 ∨ t = 4 ∨ t = 5 := by omega
        clear hlook hM hdone hC hrow2 hke hfin
        generalize M 0 0 W n = F at *
        rcases ht5 with rfl | rfl | rfl | rfl | rfl
        · have hix := fun wx => arr6_idx1 F wx
          go_wp2
          refine bodyPost_ret (v := okP (F 1) true) (by simp [results, Try.results18, go_sem]) rfl ⟨by have h : F 1 = pc ss 0 0 W n 1 := HLK.out; rw [h], HFIN.out⟩
        · have hix := fun wx => arr6_idx2 F wx
          go_wp2
          refine bodyPost_ret (v := okP (F 2) true) (by simp [results, Try.results18, go_sem]) rfl ⟨by have h : F 2 = pc ss 0 0 W n 2 := HLK.out; rw [h], HFIN.out⟩
        · have hix := fun wx => arr6_idx3 F wx
          go_wp2
          refine bodyPost_ret (v := okP (F 3) true) (by simp [results, Try.results18, go_sem]) rfl ⟨by have h : F 3 = pc ss 0 0 W n 3 := HLK.out; rw [h], HFIN.out⟩
        · have hix := fun wx => arr6_idx4 F wx
          go_wp2
          refine bodyPost_ret (v := okP (F 4) true) (by simp [results, Try.results18, go_sem]) rfl ⟨by have h : F 4 = pc ss 0 0 W n 4 := HLK.out; rw [h], HFIN.out⟩
        · have hix := fun wx => arr6_idx5 F wx
          go_wp2
          refine bodyPost_ret (v := okP (F 5) true) (by simp [results, Try.results18, go_sem]) rfl ⟨by have h : F 5 = pc ss 0 0 W n 5 := HLK.out; rw [h], HFIN.out⟩

end Go.Proofs.Ytfbmnaepobhnkaa
