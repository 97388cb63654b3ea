/-
  Words for the greatest part; contract: GreatestPart of the model.
-/
import Derived.Test.YtbjjpndhfgfedaaCount
namespace Go.Proofs.Ytbjjpndhfgfedaa
open Go.RowKit

/-- the greater size -/
def stepA (s : Int × Int) (p : Quad) : Int × Int := if s.1 * s.2 < p.2.2.1 * p.2.2.2 then (p.2.2.1, p.2.2.2) else s
/-- the size of the greatest part with so many nuts, of a list -/
def bestA (ss : List ByteArray) (many : Int) (L : List Quad) : Int × Int := (L.filter fun p => decide ((rectQ ss p : Int) = many)).foldl stepA (0, 0)
theorem bestA_append (ss : List ByteArray) (many : Int) (L M : List Quad) : bestA ss many (L ++ M) = (M.filter fun p => decide ((rectQ ss p : Int) = many)).foldl stepA (bestA ss many L) := by
  simp [bestA]
theorem same_fold (a b : Int) : ∀ (M : List Quad) (s : Int × Int), (∀ p ∈ M, p.2.2 = (a, b)) → M.foldl stepA s = if 0 < M.length ∧ s.1 * s.2 < a * b then (a, b) else s
  | [], s, _ => by simp
  | p :: r, s, h => by
    have hp : p.2.2 = (a, b) := h p (by simp)
    rw [List.foldl_cons, same_fold a b r _ (fun q hq => h q (by simp [hq]))]
    have e : stepA s p = if s.1 * s.2 < a * b then (a, b) else s := by unfold stepA; rw [hp]
    rw [e]
    by_cases hs : s.1 * s.2 < a * b
    · rw [if_pos hs, if_neg (by simp), if_pos ⟨by simp, hs⟩]
    · rw [if_neg hs, if_neg (fun h' => hs h'.2), if_neg (fun h' => hs h'.2)]
theorem rowParts_size {a b y k : Nat} : ∀ p ∈ rowParts a b y k, p.2.2 = ((a : Int), (b : Int)) := by
  induction k with
  | zero => intro p hp; simp [rowParts] at hp
  | succ k ih =>
    intro p hp
    rcases List.mem_append.1 hp with h | h
    · exact ih p h
    · rw [List.mem_singleton.1 h]
theorem sizeParts_size {a b c k : Nat} : ∀ p ∈ sizeParts a b c k, p.2.2 = ((a : Int), (b : Int)) := by
  induction k with
  | zero => intro p hp; simp [sizeParts] at hp
  | succ k ih =>
    intro p hp
    rcases List.mem_append.1 hp with h | h
    · exact ih p h
    · exact rowParts_size p h
theorem bestA_size (ss : List ByteArray) (many : Int) (L : List Quad) (a b c k : Nat) : bestA ss many (L ++ sizeParts a b c k) = if 0 < cntQ ss many (sizeParts a b c k) ∧ (bestA ss many L).1 * (bestA ss many L).2 < (a : Int) * (b : Int) then ((a : Int), (b : Int)) else bestA ss many L := by
  rw [bestA_append, same_fold (a : Int) (b : Int) _ _ (fun p hp => sizeParts_size p ((List.mem_filter.1 hp).1))]
  rfl
/-- none, or a size within 8, 8 -/
def ABnd (s : Int × Int) : Prop := (s.1 = 0 ∧ s.2 = 0) ∨ ((1 ≤ s.1 ∧ s.1 ≤ 8) ∧ (1 ≤ s.2 ∧ s.2 ≤ 8))
theorem fold_bnd {W H : Nat} (hW : W ≤ 8) (hH : H ≤ 8) : ∀ (M : List Quad) (s : Int × Int), (∀ p ∈ M, QIn W H p) → ABnd s → ABnd (M.foldl stepA s)
  | [], _, _, h => h
  | p :: r, s, hM, h => by
    rw [List.foldl_cons]
    refine fold_bnd hW hH r _ (fun q hq => hM q (by simp [hq])) ?_
    obtain ⟨x, y, a, b, rfl, h1, h2, h3, h4⟩ := hM p (by simp)
    unfold stepA
    split
    · exact .inr ⟨⟨by show (1 : Int) ≤ a; omega, by show (a : Int) ≤ 8; omega⟩, ⟨by show (1 : Int) ≤ b; omega, by show (b : Int) ≤ 8; omega⟩⟩
    · exact h
theorem bestA_bnd {W H : Nat} (hW : W ≤ 8) (hH : H ≤ 8) (ss : List ByteArray) (many : Int) (L : List Quad) (hL : ∀ p ∈ L, QIn W H p) : ABnd (bestA ss many L) :=
  fold_bnd hW hH _ _ (fun p hp => hL p ((List.mem_filter.1 hp).1)) (.inl ⟨rfl, rfl⟩)
theorem mul_64 {a b : Int} (h1 : 0 ≤ a) (h2 : a ≤ 8) (h3 : 0 ≤ b) (h4 : b ≤ 8) : 0 ≤ a * b ∧ a * b ≤ 64 :=
  ⟨Int.mul_nonneg h1 h3, by have := Int.mul_le_mul h2 h4 h3 (by omega); omega⟩
theorem ABnd.mul {s : Int × Int} (h : ABnd s) : 0 ≤ s.1 * s.2 ∧ s.1 * s.2 ≤ 64 := by
  rcases h with ⟨h1, h2⟩ | ⟨⟨h1, h2⟩, h3, h4⟩
  · exact mul_64 (by omega) (by omega) (by omega) (by omega)
  · exact mul_64 (by omega) (by omega) (by omega) (by omega)

def greatV (ss : List ByteArray) (many : Int) : Int × Int := if cntOk ss many then bestA ss many (barParts (nutW ss) ss.length (nutW ss)) else (0, 0)
def greatOk (ss : List ByteArray) (many : Int) : Bool := cntOk ss many && decide ((greatV ss many).1 ≠ 0)
abbrev okB (s : Int × Int) (b : Bool) : Value := .tuple #[bar2 s.1 s.2, .bool b]

/-- block g is the struct of a bar -/
def BarAt (w : World) (g : Nat) (x y : Int) : Prop := w.heap[g]? = some (.cells #[.int .i64 x, .int .i64 y] 37 (0, 0))
theorem BarAt.lt {w : World} {g : Nat} {x y : Int} (h : BarAt w g x y) : g < w.heap.size := (Array.getElem?_eq_some_iff.1 h).1
theorem BarAt.cells {w : World} {g : Nat} {x y : Int} (h : BarAt w g x y) : w.cell? ⟨g, 0, none⟩ = some (.int .i64 x) ∧ w.cell? ⟨g, 1, none⟩ = some (.int .i64 y) := by
  unfold BarAt at h
  refine ⟨?_, ?_⟩ <;> simp [World.cell?, h]
theorem BarAt.free {w : World} {g : Nat} {x y : Int} (h : BarAt w g x y) : w.frozen? ⟨g, 0, none⟩ = false ∧ w.frozen? ⟨g, 1, none⟩ = false := by
  unfold BarAt at h
  refine ⟨?_, ?_⟩ <;> simp [World.frozen?, h]
theorem BarAt.below {w w' : World} {B g : Nat} {x y : Int} (h : BarAt w g x y) (hb : Below B w w') (hg : g < B) : BarAt w' g x y := (hb.block g hg).trans h
theorem BarAt.set {w : World} {g : Nat} {x y x' y' : Int} (h : BarAt w g x y) : BarAt ((w.setCell ⟨g, 0, none⟩ (.int .i64 x')).setCell ⟨g, 1, none⟩ (.int .i64 y')) g x' y' := by
  unfold BarAt at h ⊢
  simp [World.setCell, Array.getElem?_modify, h]
theorem BarAt.other {w : World} {g f k : Nat} {x y : Int} {v : Value} (h : BarAt w g x y) (hn : f ≠ g) : BarAt (w.setCell ⟨f, k, none⟩ v) g x y := by
  unfold BarAt at h ⊢
  simp [World.setCell, Array.getElem?_modify, h, hn]
theorem BarAt.new (w : World) (x y : Int) : BarAt (w.alloc (.cells #[.int .i64 x, .int .i64 y] 37)) w.heap.size x y := by
  unfold BarAt
  show (w.heap.push _)[w.heap.size]? = _
  simp
theorem BarAt.alloc {w : World} {g : Nat} {x y : Int} (h : BarAt w g x y) (ob : Obj) : BarAt (w.alloc ob) g x y := by
  have hl := h.lt
  unfold BarAt at h ⊢
  show (w.heap.push ob)[g]? = _
  rw [Array.getElem?_push, if_neg (by omega)]
  exact h

set_option maxRecDepth 100000 in
set_option maxHeartbeats 4000000 in
theorem sGreatestPart_any (A : Option Addr) (n c : Nat) (ss : List ByteArray) (many : Int) (w : World) (hr : Rd w 1 A n (strCells ss)) :
    Calls Try.prog 37 #[.slice A n c, .int .i64 many] w fun e w' => e = .returned (okB (greatV ss many) (greatOk ss many)) ∧ Below w.heap.size w w' := by
  have bw0 : Below w.heap.size w (w.alloc (.cells #[.int .i64 0, .int .i64 0] 37)) := by (repeat (first | (with_reducible exact Below.refl _ _) | (with_reducible assumption) | (with_reducible refine Below.drew ?_) | ((with_reducible refine balloc ?_ _ ?_); · (first | (simp; done) | (simp; omega) | omega)) | ((with_reducible refine bset ?_ _ ?_); · (first | (simp; done) | (simp; omega) | omega)) | (with_reducible refine bdrewN _ ?_) | ((with_reducible refine bcall ?_ (by assumption) ?_); · (first | (simp; done) | (simp; omega) | omega))))
  have hr0 := hr.alloc (.cells #[.int .i64 0, .int .i64 0] 37)
  refine cnt_cases ss n many hr.slen ?_ ?_ ?_
  · intro hB hk
    rw [show greatOk ss many = false by simp [greatOk, hk], show greatV ss many = (0, 0) by simp [greatV, hk]]
    clear hk
    go_enter Try.func37, Try.ntmps37
    go_wp2_with fail
    refine (ntGood_any _ _ _ _ _ hr0).mono ?_; rintro e w1 ⟨rfl, rfl⟩
    rw [hB]
    go_wp2
    refine bodyPost_ret (v := okB (0, 0) false) (by simp [results, Try.results37, go_sem, *]) rfl ⟨rfl, by (repeat (first | (with_reducible exact Below.refl _ _) | (with_reducible assumption) | (with_reducible refine Below.drew ?_) | ((with_reducible refine balloc ?_ _ ?_); · (first | (simp; done) | (simp; omega) | omega)) | ((with_reducible refine bset ?_ _ ?_); · (first | (simp; done) | (simp; omega) | omega)) | (with_reducible refine bdrewN _ ?_) | ((with_reducible refine bcall ?_ (by assumption) ?_); · (first | (simp; done) | (simp; omega) | omega))))⟩
  · intro hb hB hm hk
    rw [show greatOk ss many = false by simp [greatOk, hk], show greatV ss many = (0, 0) by simp [greatV, hk]]
    clear hk
    have hmm : decide (many < 0) = true := by simpa using hm
    go_enter Try.func37, Try.ntmps37
    go_wp2_with fail
    refine (ntGood_any _ _ _ _ _ hr0).mono ?_; rintro e w1 ⟨rfl, rfl⟩
    rw [hB]
    go_wp2
    refine bodyPost_ret (v := okB (0, 0) false) (by simp [results, Try.results37, go_sem, *]) rfl ⟨rfl, by (repeat (first | (with_reducible exact Below.refl _ _) | (with_reducible assumption) | (with_reducible refine Below.drew ?_) | ((with_reducible refine balloc ?_ _ ?_); · (first | (simp; done) | (simp; omega) | omega)) | ((with_reducible refine bset ?_ _ ?_); · (first | (simp; done) | (simp; omega) | omega)) | (with_reducible refine bdrewN _ ?_) | ((with_reducible refine bcall ?_ (by assumption) ?_); · (first | (simp; done) | (simp; omega) | omega))))⟩
  · intro hb hB hm hk
    have hl := hr.slen
    rw [show greatOk ss many = decide ((bestA ss many (barParts (nutW ss) n (nutW ss))).1 ≠ 0) by simp [greatOk, greatV, hk, hl], show greatV ss many = bestA ss many (barParts (nutW ss) n (nutW ss)) by simp [greatV, hk, hl]]
    clear hk hl
    generalize nutW ss = W at *
    obtain ⟨B, o, rfl, hbl, s0, p0, hs0, hd0⟩ := hr.nut0 hb
    have hs := hs0.out
    subst hs
    have hn8 := hb.h8
    have hn1 := hb.h1
    have hz8 := hb.w8
    have q0 : (0 : Int) < (n : Int) := by omega
    have q00 : 0 < n := by omega
    have hmm : decide (many < 0) = false := by simpa using hm
    have hnew1 := (BarAt.new w 0 0).alloc (.cells #[.int .i64 0, .int .i64 0] 37)
    have hnew2 := BarAt.new (w.alloc (.cells #[.int .i64 0, .int .i64 0] 37)) 0 0
    rw [show (w.alloc (.cells #[.int .i64 0, .int .i64 0] 37)).heap.size = w.heap.size + 1 by simp] at hnew2
    have H1 := Lib.hid hnew1
    have H2 := Lib.hid hnew2
    clear hnew1 hnew2
    go_enter Try.func37, Try.ntmps37
    go_wp2_with fail
    refine (ntGood_any _ _ _ _ _ hr0).mono ?_; rintro e w1 ⟨rfl, rfl⟩
    rw [hB]
    go_wp2
    go_loopw [7] (fun i wr => ∃ k : Nat, k ≤ s0.size ∧ i = .int .i64 ((k : Int) + 1) ∧ BarAt wr w.heap.size 0 0 ∧ BarAt wr (w.heap.size + 1) (bestA ss many (barParts s0.size n k)).1 (bestA ss many (barParts s0.size n k)).2 ∧ Below w.heap.size w wr) (fun i _ => s0.size + 1 - (intOf i).toNat)
    case atStart => exact ⟨0, Nat.zero_le _, rfl, H1.out, H2.out, by (repeat (first | (with_reducible exact Below.refl _ _) | (with_reducible assumption) | (with_reducible refine Below.drew ?_) | ((with_reducible refine balloc ?_ _ ?_); · (first | (simp; done) | (simp; omega) | omega)) | ((with_reducible refine bset ?_ _ ?_); · (first | (simp; done) | (simp; omega) | omega)) | (with_reducible refine bdrewN _ ?_) | ((with_reducible refine bcall ?_ (by assumption) ?_); · (first | (simp; done) | (simp; omega) | omega))))⟩
    case round =>
      clear H1 H2 bw0 hr0
      obtain ⟨k, hk, rfl, hA1, hA2, hBl⟩ := hrel
      have p1 := (hBl.cell (p := ⟨B, o, none⟩) hbl).trans p0
      by_cases hlt : k < s0.size
      · have hle : (k : Int) + 1 ≤ (s0.size : Int) := by omega
        have HA1 := Lib.hid hA1
        have HA2 := Lib.hid hA2
        have HBl := Lib.hid hBl
        clear hA1 hA2 hBl
        go_wp2
        clear p1
        go_loopw [8] (fun i wr => ∃ m : Nat, m ≤ n ∧ i = .int .i64 ((m : Int) + 1) ∧ BarAt wr w.heap.size 0 0 ∧ BarAt wr (w.heap.size + 1) (bestA ss many (barParts s0.size n k ++ wideParts s0.size n (k + 1) m)).1 (bestA ss many (barParts s0.size n k ++ wideParts s0.size n (k + 1) m)).2 ∧ Below w.heap.size w wr) (fun i _ => n + 1 - (intOf i).toNat)
        case atStart => exact ⟨0, Nat.zero_le _, rfl, HA1.out, by simp only [wideParts, List.append_nil]; exact HA2.out, HBl.out⟩
        case round =>
          clear HA1 HA2 HBl
          obtain ⟨m, hm2, rfl, hA1, hA2, hBl⟩ := hrel
          by_cases hlm : m < n
          · have hle2 : (m : Int) + 1 ≤ (n : Int) := by omega
            have hbd := bestA_bnd (W := s0.size) (H := n) hz8 hn8 ss many (barParts s0.size n k ++ wideParts s0.size n (k + 1) m) (fun p hp => by
              rcases List.mem_append.1 hp with h | h
              · exact barParts_in k hk p h
              · exact wideParts_in (by omega) (by omega) m hm2 p h)
            have HS := bestA_size ss many (barParts s0.size n k ++ wideParts s0.size n (k + 1) m) (k + 1) (m + 1) (s0.size + 1 - (k + 1)) (n + 1 - (m + 1))
            rw [List.append_assoc] at HS
            replace HS : bestA ss many (barParts s0.size n k ++ wideParts s0.size n (k + 1) (m + 1)) = _ := HS
            have bz := cntQ_le ss many (sizeParts (k + 1) (m + 1) (s0.size + 1 - (k + 1)) (n + 1 - (m + 1)))
            rw [length_sizeParts] at bz
            have bw : (s0.size + 1 - (k + 1)) * (n + 1 - (m + 1)) ≤ 8 * 8 := Nat.mul_le_mul (by omega) (by omega)
            have bz2 : cntQ ss many (sizeParts (k + 1) (m + 1) (s0.size + 1 - (k + 1)) (n + 1 - (m + 1))) ≤ 64 := by omega
            clear bz bw
            have HNT := Lib.hid (ntParts_any (some ⟨B, o, none⟩) n c s0.size (k + 1) (m + 1) ss many wr (hr.later hBl (Nat.le_refl _)) hb (by omega) (by omega) (by omega) (by omega))
            generalize cntQ ss many (sizeParts (k + 1) (m + 1) (s0.size + 1 - (k + 1)) (n + 1 - (m + 1))) = z at *
            generalize bestA ss many (barParts s0.size n k ++ wideParts s0.size n (k + 1) m) = s at *
            obtain ⟨u, v⟩ := s
            simp only [Int.natCast_add, Int.cast_ofNat_Int] at HS hA2
            obtain ⟨m1, m2⟩ := hbd.mul
            obtain ⟨n1, n2⟩ := mul_64 (a := (k : Int) + 1) (b := (m : Int) + 1) (by omega) (by omega) (by omega) (by omega)
            simp only at m1 m2
            have e1 : IntKind.i64.wrap (u * v) = u * v := IntWalk.i64_in _ (by omega)
            have e2 : IntKind.i64.wrap (((k : Int) + 1) * ((m : Int) + 1)) = ((k : Int) + 1) * ((m : Int) + 1) := IntWalk.i64_in _ (by omega)
            obtain ⟨c0, c1⟩ := hA2.cells
            obtain ⟨f0, f1⟩ := hA2.free
            have HA1 := Lib.hid hA1
            have HA2 := Lib.hid hA2
            have HBl := Lib.hid hBl
            clear hA1 hA2 hBl hbd
            by_cases hgt : u * v < ((k : Int) + 1) * ((m : Int) + 1)
            · have hgt' : decide (u * v < ((k : Int) + 1) * ((m : Int) + 1)) = true := decide_eq_true hgt
              by_cases hz : 0 < z
              · have hz' : decide ((0 : Int) < (z : Int)) = true := decide_eq_true (by omega)
                rw [if_pos ⟨hz, hgt⟩] at HS
                have HSS := Lib.hid HS
                clear HS m1 m2 n1 n2
                go_wp2_with fail
                refine HNT.out.mono ?_; rintro e w1 ⟨rfl, rfl⟩
                go_wp2
                go_roundw
                case rel => exact ⟨m + 1, by omega, by go_num, (HA1.out.other (by omega)).other (by omega), by rw [HSS.out]; exact HA2.out.set, by have hb3 := HBl.out; (repeat (first | (with_reducible exact Below.refl _ _) | (with_reducible assumption) | (with_reducible refine Below.drew ?_) | ((with_reducible refine balloc ?_ _ ?_); · (first | (simp; done) | (simp; omega) | omega)) | ((with_reducible refine bset ?_ _ ?_); · (first | (simp; done) | (simp; omega) | omega)) | (with_reducible refine bdrewN _ ?_) | ((with_reducible refine bcall ?_ (by assumption) ?_); · (first | (simp; done) | (simp; omega) | omega))))⟩
                case measure => simp [intOf]; omega
              · have hz' : decide ((0 : Int) < (z : Int)) = false := decide_eq_false (by omega)
                rw [if_neg (fun h => hz h.1)] at HS
                have HSS := Lib.hid HS
                clear HS m1 m2 n1 n2
                go_wp2_with fail
                refine HNT.out.mono ?_; rintro e w1 ⟨rfl, rfl⟩
                go_wp2
                go_roundw
                case rel => exact ⟨m + 1, by omega, by go_num, HA1.out, by rw [HSS.out]; exact HA2.out, HBl.out⟩
                case measure => simp [intOf]; omega
            · have hgt' : decide (u * v < ((k : Int) + 1) * ((m : Int) + 1)) = false := decide_eq_false hgt
              rw [if_neg (fun h => hgt h.2)] at HS
              have HSS := Lib.hid HS
              clear HS m1 m2 n1 n2
              go_wp2
              go_roundw
              case rel => exact ⟨m + 1, by omega, by go_num, HA1.out, by rw [HSS.out]; exact HA2.out, HBl.out⟩
              case measure => simp [intOf]; omega
          · have hme : m = n := by omega
            subst hme
            go_wp2
            go_roundw
            case rel => exact ⟨k + 1, by omega, by go_num, hA1, hA2, hBl⟩
            case measure => simp [intOf]; omega
      · have hke : k = s0.size := by omega
        subst hke
        have hbd := bestA_bnd (W := s0.size) (H := n) hz8 hn8 ss many (barParts s0.size n s0.size) (barParts_in s0.size (Nat.le_refl _))
        generalize hsq : bestA ss many (barParts s0.size n s0.size) = s at *
        obtain ⟨u, v⟩ := s
        have HSE := Lib.hid hsq
        clear hsq
        obtain ⟨c0, c1⟩ := hA2.cells
        obtain ⟨d0, d1⟩ := hA1.cells
        obtain ⟨f0, f1⟩ := hA1.free
        simp only at c0 c1
        rcases hbd with ⟨rfl, rfl⟩ | ⟨⟨h1, h2⟩, h3, h4⟩
        · clear hA2 hA1
          go_wp2
          refine bodyPost_ret (v := okB (0, 0) false) (by simp [results, Try.results37, go_sem, *]) rfl ⟨by rw [HSE.out]; rfl, by (repeat (first | (with_reducible exact Below.refl _ _) | (with_reducible assumption) | (with_reducible refine Below.drew ?_) | ((with_reducible refine balloc ?_ _ ?_); · (first | (simp; done) | (simp; omega) | omega)) | ((with_reducible refine bset ?_ _ ?_); · (first | (simp; done) | (simp; omega) | omega)) | (with_reducible refine bdrewN _ ?_) | ((with_reducible refine bcall ?_ (by assumption) ?_); · (first | (simp; done) | (simp; omega) | omega))))⟩
        · simp only at h1 h2 h3 h4
          have hne : (u == 0) = false := by simp; omega
          have hok : decide (u ≠ 0) = true := by simp; omega
          clear hA2 hA1
          go_wp2
          refine bodyPost_ret (v := okB (u, v) true) (by simp [results, Try.results37, go_sem, *]) rfl ⟨by rw [HSE.out]; show _ = Ending.returned (okB (u, v) (decide (u ≠ 0))); rw [hok], by (repeat (first | (with_reducible exact Below.refl _ _) | (with_reducible assumption) | (with_reducible refine Below.drew ?_) | ((with_reducible refine balloc ?_ _ ?_); · (first | (simp; done) | (simp; omega) | omega)) | ((with_reducible refine bset ?_ _ ?_); · (first | (simp; done) | (simp; omega) | omega)) | (with_reducible refine bdrewN _ ?_) | ((with_reducible refine bcall ?_ (by assumption) ?_); · (first | (simp; done) | (simp; omega) | omega))))⟩

end Go.Proofs.Ytbjjpndhfgfedaa
