/-
  Contracts: CountParts of the model and of the program.
-/
import Derived.Test.YtbjjpndhfgfedaaPartsW
import Derived.Test.YtbjjpndhfgfedaaInPartS
import Derived.Test.YtbjjpndhfgfedaaSum
namespace Go.Proofs.Ytbjjpndhfgfedaa
open Go.RowKit

/-- how many parts of a list have so many nuts -/
def cntQ (ss : List ByteArray) (many : Int) (L : List Quad) : Nat := (L.filter fun p => decide ((rectQ ss p : Int) = many)).length
theorem cntQ_le (ss : List ByteArray) (many : Int) (L : List Quad) : cntQ ss many L ≤ L.length := List.length_filter_le _ _
theorem cntQ_append (ss : List ByteArray) (many : Int) (L M : List Quad) : cntQ ss many (L ++ M) = cntQ ss many L + cntQ ss many M := by
  simp [cntQ]
theorem cntQ_one (ss : List ByteArray) (many : Int) (x y a b : Nat) : cntQ ss many [((x : Int), (y : Int), (a : Int), (b : Int))] = if (rect ss x y a b : Int) = many then 1 else 0 := by
  unfold cntQ
  by_cases h : (rect ss x y a b : Int) = many
  · rw [List.filter_cons_of_pos (by simp only [rectQ, Int.toNat_natCast]; exact decide_eq_true h), if_pos h]; rfl
  · rw [List.filter_cons_of_neg (by simp only [rectQ, Int.toNat_natCast]; exact fun h' => h (of_decide_eq_true h')), if_neg h]; rfl

set_option maxRecDepth 100000 in
set_option maxHeartbeats 2000000 in
theorem ntParts_any (A : Option Addr) (n c W a b : Nat) (ss : List ByteArray) (many : Int) (w : World) (hr : Rd w 1 A n (strCells ss)) (hb : NB ss W n) (ha : 1 ≤ a) (haW : a ≤ W) (hb1 : 1 ≤ b) (hbn : b ≤ n) :
    Calls Try.prog 62 #[.slice A n c, .int .i64 a, .int .i64 b, .int .i64 many] w fun e w' => e = .returned (.int .i64 (cntQ ss many (sizeParts a b (W + 1 - a) (n + 1 - b)) : Nat)) ∧ w = w' := by
  obtain ⟨B, o, rfl, hbl, s0, p0, hs0, hd0⟩ := hr.nut0 hb
  have hs := hs0.out
  subst hs
  have hn8 := hb.h8
  have hn1 := hb.h1
  have hz8 := hb.w8
  have q0 : (0 : Int) < (n : Int) := by omega
  have q00 : 0 < n := by omega
  go_enter Try.func62, Try.ntmps62
  go_wp2
  go_loop [9, 10] (fun v i => ∃ y : Nat, y ≤ n + 1 - b ∧ i = .int .i64 y ∧ v = .int .i64 (cntQ ss many (sizeParts a b (s0.size + 1 - a) y) : Nat)) (fun _ i => n + 1 - (intOf i).toNat)
  case atStart => exact ⟨0, Nat.zero_le _, rfl, rfl⟩
  case round =>
    obtain ⟨y, hy, rfl, rfl⟩ := hrel
    by_cases hlt : y < n + 1 - b
    · have hle : (y : Int) + b ≤ (n : Int) := by omega
      have bc := cntQ_le ss many (sizeParts a b (s0.size + 1 - a) y)
      rw [length_sizeParts] at bc
      have bm : (s0.size + 1 - a) * y ≤ 8 * 8 := Nat.mul_le_mul (by omega) (by omega)
      have HR : Hid (cntQ ss many (sizeParts a b (s0.size + 1 - a) (y + 1)) = cntQ ss many (sizeParts a b (s0.size + 1 - a) y) + cntQ ss many (rowParts a b y (s0.size + 1 - a))) := cntQ_append _ _ _ _
      go_wp2
      generalize cntQ ss many (sizeParts a b (s0.size + 1 - a) y) = q at *
      go_loop [9, 11] (fun v i => ∃ x : Nat, x ≤ s0.size + 1 - a ∧ i = .int .i64 x ∧ v = .int .i64 (q + cntQ ss many (rowParts a b y x) : Nat)) (fun _ i => s0.size + 1 - (intOf i).toNat)
      case atStart => exact ⟨0, Nat.zero_le _, rfl, rfl⟩
      case round =>
        obtain ⟨x, hx, rfl, rfl⟩ := hrel
        have bx := cntQ_le ss many (rowParts a b y x)
        rw [length_rowParts] at bx
        by_cases hlx : x < s0.size + 1 - a
        · have hlex : (x : Int) + a ≤ (s0.size : Int) := by omega
          have HS : Hid (cntQ ss many (rowParts a b y (x + 1)) = cntQ ss many (rowParts a b y x) + if (rect ss x y a b : Int) = many then 1 else 0) := by
            have := cntQ_append ss many (rowParts a b y x) [((x : Int), (y : Int), (a : Int), (b : Int))]
            rw [cntQ_one] at this
            exact this
          have HNT := Lib.hid (ntSum_any (some ⟨B, o, none⟩) n c s0.size ss x y ((x : Int) + a) ((y : Int) + b) x y a b w hr hb rfl rfl rfl rfl (by omega) (by omega))
          generalize cntQ ss many (rowParts a b y x) = q2 at *
          generalize rect ss x y a b = r at *
          by_cases hm : (r : Int) = many
          · have hmm : ((r : Int) == many) = true := by simpa using hm
            have HS2 : Hid (cntQ ss many (rowParts a b y (x + 1)) = q2 + 1) := by have := HS.out; rw [if_pos hm] at this; exact this
            clear hm HS
            go_wp2_with fail
            refine HNT.out.mono ?_; rintro e w1 ⟨rfl, rfl⟩
            go_wp2
            go_round
            case rel => exact ⟨x + 1, by omega, by go_num, by rw [HS2.out]; go_num⟩
            case measure => simp [intOf]; omega
          · have hmm : ((r : Int) == many) = false := by simpa using hm
            have HS2 : Hid (cntQ ss many (rowParts a b y (x + 1)) = q2) := by have := HS.out; rw [if_neg hm] at this; exact this
            clear hm HS
            go_wp2_with fail
            refine HNT.out.mono ?_; rintro e w1 ⟨rfl, rfl⟩
            go_wp2
            go_round
            case rel => exact ⟨x + 1, by omega, by go_num, by rw [HS2.out]; go_num⟩
            case measure => simp [intOf]; omega
        · have hxe : x = s0.size + 1 - a := by omega
          subst hxe
          go_wp2
          go_round
          case rel => exact ⟨y + 1, by omega, by go_num, by rw [HR.out]⟩
          case measure => simp [intOf]; omega
    · have hye : y = n + 1 - b := by omega
      subst hye
      go_wp2
      go_ret
      exact ⟨rfl, rfl⟩

def cntOk (ss : List ByteArray) (many : Int) : Bool := nutsB ss && decide (0 ≤ many)
def cntV (ss : List ByteArray) (many : Int) : Int := if cntOk ss many then ((cntQ ss many (barParts (nutW ss) ss.length (nutW ss)) : Nat) : Int) else 0
theorem cnt_cases {p : Prop} (ss : List ByteArray) (n : Nat) (many : Int) (hl : ss.length = n)
    (h1 : nutsB ss = false → cntOk ss many = false → p)
    (h2 : NB ss (nutW ss) n → nutsB ss = true → many < 0 → cntOk ss many = false → p)
    (h3 : NB ss (nutW ss) n → nutsB ss = true → 0 ≤ many → cntOk ss many = true → p) : p := by
  cases hB : nutsB ss
  · exact h1 hB (by simp [cntOk, hB])
  · have hb := NB.of hB
    rw [hl] at hb
    by_cases h : 0 ≤ many
    · exact h3 hb hB h (by simp [cntOk, hB, h])
    · exact h2 hb hB (by omega) (by simp [cntOk, h])

set_option maxRecDepth 100000 in
set_option maxHeartbeats 2000000 in
theorem sCountParts_any (A : Option Addr) (n c : Nat) (ss : List ByteArray) (many : Int) (w : World) (hr : Rd w 1 A n (strCells ss)) :
    Calls Try.prog 35 #[.slice A n c, .int .i64 many] w fun e w' => e = .returned (okI (cntV ss many) (cntOk ss many)) ∧ w = w' := by
  refine cnt_cases ss n many hr.slen ?_ ?_ ?_
  · intro hB hk
    rw [show cntV ss many = 0 by simp [cntV, hk], hk]
    clear hk
    go_enter Try.func35, Try.ntmps35
    go_wp2_with fail
    refine (ntGood_any _ _ _ _ _ hr).mono ?_; rintro e w1 ⟨rfl, rfl⟩
    rw [hB]
    go_wp2
    refine bodyPost_ret (v := okI 0 false) (by simp [results, Try.results35, go_sem]) rfl ⟨rfl, rfl⟩
  · intro hb hB hm hk
    rw [show cntV ss many = 0 by simp [cntV, hk], hk]
    clear hk
    have hmm : decide (many < 0) = true := by simpa using hm
    go_enter Try.func35, Try.ntmps35
    go_wp2_with fail
    refine (ntGood_any _ _ _ _ _ hr).mono ?_; rintro e w1 ⟨rfl, rfl⟩
    rw [hB]
    go_wp2
    refine bodyPost_ret (v := okI 0 false) (by simp [results, Try.results35, go_sem]) rfl ⟨rfl, rfl⟩
  · intro hb hB hm hk
    have hl := hr.slen
    rw [show cntV ss many = (cntQ ss many (barParts (nutW ss) n (nutW ss)) : Nat) by simp [cntV, hk, hl], hk]
    clear hk hl
    generalize nutW ss = W at *
    obtain ⟨B, o, rfl, hbl, s0, p0, hs0, hd0⟩ := hr.nut0 hb
    have hs := hs0.out
    subst hs
    have hn8 := hb.h8
    have hn1 := hb.h1
    have hz8 := hb.w8
    have q0 : (0 : Int) < (n : Int) := by omega
    have q00 : 0 < n := by omega
    have hmm : decide (many < 0) = false := by simpa using hm
    go_enter Try.func35, Try.ntmps35
    go_wp2_with fail
    refine (ntGood_any _ _ _ _ _ hr).mono ?_; rintro e w1 ⟨rfl, rfl⟩
    rw [hB]
    go_wp2
    go_loop [6, 7] (fun v i => ∃ k : Nat, k ≤ s0.size ∧ i = .int .i64 ((k : Int) + 1) ∧ v = .int .i64 (cntQ ss many (barParts s0.size n k) : Nat)) (fun _ i => s0.size + 1 - (intOf i).toNat)
    case atStart => exact ⟨0, Nat.zero_le _, rfl, rfl⟩
    case round =>
      obtain ⟨k, hk, rfl, rfl⟩ := hrel
      by_cases hlt : k < s0.size
      · have hle : (k : Int) + 1 ≤ (s0.size : Int) := by omega
        have bc := cntQ_le ss many (barParts s0.size n k)
        have bm := length_barParts s0.size n k hz8 hn8
        have HR : Hid (cntQ ss many (barParts s0.size n (k + 1)) = cntQ ss many (barParts s0.size n k) + cntQ ss many (wideParts s0.size n (k + 1) n)) := cntQ_append _ _ _ _
        go_wp2
        generalize cntQ ss many (barParts s0.size n k) = q at *
        go_loop [6, 8] (fun v i => ∃ m : Nat, m ≤ n ∧ i = .int .i64 ((m : Int) + 1) ∧ v = .int .i64 (q + cntQ ss many (wideParts s0.size n (k + 1) m) : Nat)) (fun _ i => n + 1 - (intOf i).toNat)
        case atStart => exact ⟨0, Nat.zero_le _, rfl, rfl⟩
        case round =>
          obtain ⟨m, hm2, rfl, rfl⟩ := hrel
          have bx := cntQ_le ss many (wideParts s0.size n (k + 1) m)
          have by' := length_wideParts s0.size n (k + 1) m hz8 hn8 (by omega)
          by_cases hlm : m < n
          · have hle2 : (m : Int) + 1 ≤ (n : Int) := by omega
            have HS : Hid (cntQ ss many (wideParts s0.size n (k + 1) (m + 1)) = cntQ ss many (wideParts s0.size n (k + 1) m) + cntQ ss many (sizeParts (k + 1) (m + 1) (s0.size + 1 - (k + 1)) (n + 1 - (m + 1)))) := cntQ_append _ _ _ _
            have bz := cntQ_le ss many (sizeParts (k + 1) (m + 1) (s0.size + 1 - (k + 1)) (n + 1 - (m + 1)))
            rw [length_sizeParts] at bz
            have bw : (s0.size + 1 - (k + 1)) * (n + 1 - (m + 1)) ≤ 8 * 8 := Nat.mul_le_mul (by omega) (by omega)
            have bz2 : cntQ ss many (sizeParts (k + 1) (m + 1) (s0.size + 1 - (k + 1)) (n + 1 - (m + 1))) ≤ 64 := by omega
            clear bz bw
            have HNT := Lib.hid (ntParts_any (some ⟨B, o, none⟩) n c s0.size (k + 1) (m + 1) ss many w hr hb (by omega) (by omega) (by omega) (by omega))
            generalize cntQ ss many (sizeParts (k + 1) (m + 1) (s0.size + 1 - (k + 1)) (n + 1 - (m + 1))) = z at *
            generalize cntQ ss many (wideParts s0.size n (k + 1) m) = q2 at *
            go_wp2_with fail
            refine HNT.out.mono ?_; rintro e w1 ⟨rfl, rfl⟩
            go_wp2
            go_round
            case rel => exact ⟨m + 1, by omega, by go_num, by rw [HS.out]; go_num⟩
            case measure => simp [intOf]; omega
          · have hme : m = n := by omega
            subst hme
            go_wp2
            go_round
            case rel => exact ⟨k + 1, by omega, by go_num, by rw [HR.out]⟩
            case measure => simp [intOf]; omega
      · have hke : k = s0.size := by omega
        subst hke
        go_wp2
        refine bodyPost_ret (v := okI (cntQ ss many (barParts s0.size n s0.size) : Nat) true) (by simp [results, Try.results35, go_sem]) rfl ⟨rfl, rfl⟩

set_option maxRecDepth 100000 in
set_option maxHeartbeats 2000000 in
theorem countParts_any (A : Option Addr) (n c : Nat) (ss : List ByteArray) (many : Int) (w : World) (hr : Rd w 1 A n (strCells ss)) :
    Calls Try.prog 36 #[.slice A n c, .int .i64 many] w fun e w' => e = .returned (okI (cntV ss many) (cntOk ss many)) ∧ Below w.heap.size w w' := by
  refine cnt_cases ss n many hr.slen ?_ ?_ ?_
  · intro hB hk
    rw [show cntV ss many = 0 by simp [cntV, hk], hk]
    clear hk
    go_enter Try.func36, Try.ntmps36
    go_wp2_with fail
    refine (areNuts_any _ _ _ _ _ hr).mono ?_; rintro e w1 ⟨rfl, rfl⟩
    rw [hB]
    go_wp2
    refine bodyPost_ret (v := okI 0 false) (by simp [results, Try.results36, go_sem]) rfl ⟨rfl, Below.refl _ _⟩
  · intro hb hB hm hk
    rw [show cntV ss many = 0 by simp [cntV, hk], hk]
    clear hk
    have hmm : decide (many < 0) = true := by simpa using hm
    go_enter Try.func36, Try.ntmps36
    go_wp2_with fail
    refine (areNuts_any _ _ _ _ _ hr).mono ?_; rintro e w1 ⟨rfl, rfl⟩
    rw [hB]
    go_wp2
    refine bodyPost_ret (v := okI 0 false) (by simp [results, Try.results36, go_sem]) rfl ⟨rfl, Below.refl _ _⟩
  · intro hb hB hm hk
    have hl := hr.slen
    rw [show cntV ss many = (cntQ ss many (barParts (nutW ss) n (nutW ss)) : Nat) by simp [cntV, hk, hl], hk]
    clear hk hl
    have hmm : decide (many < 0) = false := by simpa using hm
    go_enter Try.func36, Try.ntmps36
    go_wp2_with fail
    refine (areNuts_any _ _ _ _ _ hr).mono ?_; rintro e w1 ⟨rfl, rfl⟩
    rw [hB]
    go_wp2_with fail
    refine (partsWith_any _ _ _ (nutW ss) ss many _ hr hb).mono ?_; rintro e w2 ⟨A2, n2, c2, rfl, own2, hb2⟩
    have hn : n2 = cntQ ss many (barParts (nutW ss) n (nutW ss)) := by
      have := own2.1
      rw [length_quadCells] at this
      unfold cntQ
      unfold withL at this
      omega
    have HN := Lib.hid hn
    clear hn own2
    go_wp2
    refine bodyPost_ret (v := okI n2 true) (by simp [results, Try.results36, go_sem]) rfl ⟨by rw [HN.out], hb2⟩

end Go.Proofs.Ytbjjpndhfgfedaa
