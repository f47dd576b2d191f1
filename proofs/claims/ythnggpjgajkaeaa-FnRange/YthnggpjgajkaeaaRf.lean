/-
  The law of FnTree.
-/
import Derived.Test.YthnggpjgajkaeaaRe
import Derived.Deep.RegionHeld3
namespace Go.Proofs.Ythnggpjgajkaeaa
open Go Go.RowKit
attribute [local go_sem ↓] Go.wp_at_zero Go.wp_at_succ
set_option linter.unusedVariables false

theorem farT {w W : World} {g o : Nat} {v : Value} (hb : Below w.heap.size w W) (hg : g < w.heap.size) (h : w.cell? ⟨g, o, none⟩ = some v) : W.cell? ⟨g, o, none⟩ = some v := (hb.cell (p := ⟨g, o, none⟩) hg).trans h
theorem put2_far (w : World) (g b o : Nat) (x y : Value) (h : b ≠ g) : ((w.setCell ⟨g, 0, none⟩ x).setCell ⟨g, 1, none⟩ y).cell? ⟨b, o, none⟩ = w.cell? ⟨b, o, none⟩ := by
  have h1 := Below.heap_setCell (w.setCell ⟨g, 0, none⟩ x) ⟨g, 1, none⟩ y b h
  have h2 := Below.heap_setCell w ⟨g, 0, none⟩ x b h
  simp [World.cell?, h1, h2]
theorem box2T {w : World} {g : Nat} {t : TypeId} {v0 v1 : Value} (h : Box w g t #[v0, v1]) : w.cell? ⟨g, 0, none⟩ = some v0 ∧ w.cell? ⟨g, 1, none⟩ = some v1 := ⟨h.cell 0, h.cell 1⟩
theorem thaw2T {w : World} {g : Nat} {t : TypeId} {v0 v1 : Value} (h : Box w g t #[v0, v1]) : w.frozen? ⟨g, 0, none⟩ = false ∧ w.frozen? ⟨g, 1, none⟩ = false := ⟨h.thaw 0, h.thaw 1⟩
theorem zbT_of {w w' : World} (hb : Below (w.alloc (.cells #[.int .i64 0, .slice none 0 0] 27)).heap.size (w.alloc (.cells #[.int .i64 0, .slice none 0 0] 27)) w') : Box w' w.heap.size 27 #[.int .i64 0, .slice none 0 0] := (Box.new w _ _).belowS hb
theorem zbT_ofd {w w' : World} (hb : Below (w.alloc (.cells #[.int .i64 0, .slice none 0 0] 27)).drew.heap.size (w.alloc (.cells #[.int .i64 0, .slice none 0 0] 27)).drew w') : Box w' w.heap.size 27 #[.int .i64 0, .slice none 0 0] := (show Box (w.alloc (.cells #[.int .i64 0, .slice none 0 0] 27)).drew w.heap.size 27 #[.int .i64 0, .slice none 0 0] from Box.new w _ _).belowS hb
theorem ans_low {w : World} {B g : Nat} {P Q : Prop} {co r : Int} {a : Option Addr} {n c : Nat} {K : List ByteArray} (h : (P ∧ co = 9) ∨ (Q ∧ co = 0 ∧ TreeS w (fun k => B ≤ k) r a n c K)) (hg : g < B) : (P ∧ co = 9) ∨ (Q ∧ co = 0 ∧ TreeS w (fun k => k ≠ g) r a n c K) :=
  h.imp id fun ⟨h1, h2, h3⟩ => ⟨h1, h2, h3.mono fun k _ hk => by omega⟩
theorem ans_put {w : World} {B g q : Nat} {P Q : Prop} {co r : Int} {a : Option Addr} {n c : Nat} {K : List ByteArray} {x y : Value} (h : (P ∧ co = 9) ∨ (Q ∧ co = 0 ∧ TreeS w (fun k => B ≤ k) r a n c K)) (hq : q < B) (hg : g < B) : (P ∧ co = 9) ∨ (Q ∧ co = 0 ∧ TreeS ((w.setCell ⟨q, 0, none⟩ x).setCell ⟨q, 1, none⟩ y) (fun k => k ≠ g) r a n c K) :=
  ans_low (h.imp id fun ⟨h1, h2, h3⟩ => ⟨h1, h2, (h3.set (by omega)).set (by omega)⟩) hg
theorem ans_bel {w w' : World} {S : Nat → Prop} {P Q : Prop} {co r : Int} {a : Option Addr} {n c : Nat} {K : List ByteArray} (h : (P ∧ co = 9) ∨ (Q ∧ co = 0 ∧ TreeS w S r a n c K)) (hb : Below w.heap.size w w') : (P ∧ co = 9) ∨ (Q ∧ co = 0 ∧ TreeS w' S r a n c K) :=
  h.imp id fun ⟨h1, h2, h3⟩ => ⟨h1, h2, h3.below hb⟩
theorem rg_all {K : List ByteArray} (h : ∀ s ∈ K, TK 6 s) : rgL ⟨#[]⟩ ⟨#[122, 122, 122]⟩ K = K := by
  unfold rgL
  rw [List.filter_eq_self]
  intro s hs
  obtain ⟨x, y, rfl, hx, hy⟩ := h s hs
  have e : (strOfNums [x, y]).toList = [UInt8.ofNat x.toNat, UInt8.ofNat y.toNat] := by rw [ByteArray.toList_eq]; rfl
  unfold rgB
  rw [e, ByteArray.toList_eq, ByteArray.toList_eq]
  have h1 : UInt8.ofNat x.toNat < 122 := by
    rw [UInt8.lt_iff_toNat_lt, UInt8.toNat_ofNat']
    show x.toNat % 256 < 122
    omega
  simp [Op.bytesLess, h1]

theorem tmod_nat {x : Int} {n : Nat} (hx : 0 ≤ x) (hn : 0 < n) : ∃ p : Nat, x.tmod (n : Int) = (p : Int) ∧ p < n := by
  refine ⟨(x.tmod (n : Int)).toNat, ?_, ?_⟩
  · rw [Int.tmod_eq_emod_of_nonneg hx]; have := Int.emod_nonneg x (b := (n : Int)) (by omega); omega
  · rw [Int.tmod_eq_emod_of_nonneg hx]; have := Int.emod_lt_of_pos x (b := (n : Int)) (by omega); omega
set_option maxRecDepth 100000 in
set_option maxHeartbeats 60000000 in
theorem law_FnTree (a : Option Addr) (n c : Nat) (zs : List Int) (b : Option Addr) (m d : Nat) (ys : List Int) (w : World) (hr : RdV w a n (zs.map (Value.int .u8))) (hz : ∀ z ∈ zs, 0 ≤ z ∧ z < 256) (hm : n ≤ maxLen) (hr' : RdV w b m (ys.map (Value.int .u8))) (hz' : ∀ z ∈ ys, 0 ≤ z ∧ z < 256) (hm' : m ≤ maxLen) :
    Calls Try.prog 3 #[.slice a n c, .slice b m d] w fun e w' => e = .returned (.bool true) ∧ Below w.heap.size w w' := by
  by_cases h1 : 1048576 < n
  · clear hr hr' hz hz'
    go_enter Try.func3, Try.ntmps3
    go_wp2
    go_ret
    exact ⟨rfl, Below.refl _ _⟩
  by_cases h2 : 1048576 < m
  · clear hr hr' hz hz'
    go_enter Try.func3, Try.ntmps3
    go_wp2
    go_ret
    exact ⟨rfl, Below.refl _ _⟩
  have C0 : Hid (∀ W, Below w.heap.size w W → Calls Try.prog 14 #[.slice b m d, .int .i64 0, .int .i64 5] W fun e w' => (∃ r : Int, e = .returned (.int .i64 r) ∧ 0 ≤ r ∧ r < 5) ∧ Below W.heap.size W w') := fun W hW => (c_at b m d 0 5 ys W (hr'.below hW) hz' (by omega) (by omega) (by omega)).mono fun e w' ⟨⟨r, h1, h2, h3⟩, h4⟩ => ⟨⟨r, h1, h2, h3 (by omega)⟩, h4⟩
  have C1 : Hid (∀ W (k : Nat), k ≤ 47 → 0 < k → Below w.heap.size w W → Calls Try.prog 14 #[.slice b m d, .int .i64 1, .int .i64 k] W fun e w' => (∃ r : Int, e = .returned (.int .i64 r) ∧ 0 ≤ r ∧ r < k) ∧ Below W.heap.size W w') := fun W k hk hk0 hW => (c_at b m d 1 k ys W (hr'.below hW) hz' (by omega) (by omega) (by omega)).mono fun e w' ⟨⟨r, h1, h2, h3⟩, h4⟩ => ⟨⟨r, h1, h2, h3 (by omega)⟩, h4⟩
  have CK := c_keysOf a n c zs w hr hz (by omega)
  clear hr hr' hz hz'
  go_enter Try.func3, Try.ntmps3
  go_wp2_with fail
  refine CK.mono ?_
  rintro e w1 ⟨⟨ka, kc, K, rfl, rk, hri, h47, htk⟩, hb1⟩
  have HRI : Hid (Rise K) := hri
  have HTK : Hid (∀ s ∈ K, TK 6 s) := htk
  have HB1 : Hid (Below w.heap.size w w1) := hb1
  obtain ⟨kn, hkn⟩ : ∃ q, K.length = q := ⟨_, rfl⟩
  have HKN : Hid (K.length = kn) := hkn
  rw [hkn] at rk h47 ⊢
  have HRK : Hid (RdV w1 ka kn (K.map Value.string)) := rk
  clear CK rk hri htk hb1 hkn
  go_wp2_with fail
  refine (c_tN w1).mono ?_
  rintro e w2 ⟨⟨r0, a0, n0, c0, rfl, ht0⟩, hb2⟩
  obtain ⟨V, hV⟩ : ∃ V, w2.alloc (.cells #[.int .i64 r0, .slice a0 n0 c0] 27) = V := ⟨_, rfl⟩
  have bV : Below w2.heap.size w2 V := by rw [← hV]; exact (Below.refl _ _).alloc (Nat.le_refl _) _
  have BX : Hid (Box V w2.heap.size 27 #[.int .i64 r0, .slice a0 n0 c0]) := by unfold Hid; rw [← hV]; exact Box.new _ _ _
  have TS : Hid (TreeS V (fun k => k ≠ w2.heap.size) r0 a0 n0 c0 []) := (ht0.below bV).mono fun k _ h => by omega
  have BW : Hid (Below w1.heap.size w1 V) := hb2.trans (bV.mono hb2.size)
  have HG1 : Hid (w1.heap.size ≤ w2.heap.size) := hb2.size
  clear ht0 hb2 bV
  go_wp2_with fail
  clear hV
  obtain ⟨g, hg⟩ : ∃ g, w2.heap.size = g := ⟨_, rfl⟩
  rw [hg] at BX TS HG1 ⊢
  clear hg
  go_loopw [7] (fun i wr => ∃ (k : Nat) (r : Int) (a' : Option Addr) (n' c' : Nat) (L : List ByteArray), k ≤ kn ∧ i = .int .i64 k ∧ Hid (Box wr g 27 #[.int .i64 r, .slice a' n' c']) ∧ Hid (TreeS wr (fun k => k ≠ g) r a' n' c' L) ∧ Hid (∀ x ∈ L, x ∈ K) ∧ Hid (Below w1.heap.size w1 wr)) (fun i _ => kn - (intOf i).toNat)
  case atStart => exact ⟨0, r0, a0, n0, c0, [], Nat.zero_le _, rfl, BX, TS, fun x hx => by (cases hx), BW⟩
  case round =>
    clear BX TS BW
    obtain ⟨k, r, a', n', c', L, hk, rfl, BX, TS, HL, BW⟩ := hrel
    by_cases hlt : k < kn
    · have CA := C0.out wr (HB1.out.trans (BW.out.mono HB1.out.size))
      have n0' : ((kn : Int) == 0) = false := by simp; omega
      have n1' : ¬ (kn : Int) = 0 := by omega
      have u1 : IntKind.i64.wrap ((k : Int) * 7) = (k : Int) * 7 := by rw [IntKind.wrap_i64]; omega
      go_wp2_with fail
      refine CA.mono ?_
      rintro e w3 ⟨⟨q5, rfl, q0, q1⟩, hb3⟩
      have u2 : IntKind.i64.wrap ((k : Int) * 7 + q5) = (k : Int) * 7 + q5 := by rw [IntKind.wrap_i64]; omega
      obtain ⟨p, hp, hpn⟩ : ∃ p : Nat, ((k : Int) * 7 + q5).tmod (kn : Int) = (p : Int) ∧ p < kn := tmod_nat (by omega) (by omega)
      have u3 : IntKind.i64.wrap (p : Int) = p := by rw [IntKind.wrap_i64]; omega
      have BX3 : Hid (Box w3 g 27 #[.int .i64 r, .slice a' n' c']) := BX.out.belowS hb3
      have TS3 : Hid (TreeS w3 (fun k => k ≠ g) r a' n' c' L) := TS.out.below hb3
      have BW3 : Hid (Below w1.heap.size w1 w3) := BW.out.trans (hb3.mono BW.out.size)
      clear CA hb3 BX TS BW
      obtain ⟨kb, off, rfl, hbl, hc⟩ := HRK.out.2 (by omega)
      obtain ⟨y, hy⟩ : ∃ y, K.getD p zS = y := ⟨_, rfl⟩
      have HY : Hid (y ∈ K) := by unfold Hid; rw [← hy, getD_get (by rw [HKN.out]; exact hpn)]; exact List.getElem_mem _
      have HYD : Hid (K.getD p zS = y) := hy
      have x2 : w3.cell? ⟨kb, off + p, none⟩ = some (.string y) := farT BW3.out hbl (by rw [hc p hpn, ← hy]; exact map_get _ _ _ _ (by rw [HKN.out]; exact hpn))
      obtain ⟨x0, x1⟩ := box2T BX3.out
      have lg : g < w3.heap.size := BX3.out.lt
      have lk : kb < w3.heap.size := Nat.lt_of_lt_of_le hbl BW3.out.size
      have hkg : kb ≠ g := by have := HG1.out; omega
      have g1 : (0 : Int) ≤ (p : Int) := by omega
      have g2 : (p : Int) < (kn : Int) := by omega
      have CI : Hid (∀ W, Below w3.heap.size w3 W → Calls Try.prog 15 #[.agg #[.int .i64 r, .slice a' n' c'], .string y] W fun e w' => (∃ r' a2 n2 c2 co, e = .returned (.tuple #[.agg #[.int .i64 r', .slice a2 n2 c2], .int .i64 co]) ∧ ((y ∈ L ∧ co = 9) ∨ (y ∉ L ∧ co = 0 ∧ TreeS w' (fun k => W.heap.size ≤ k) r' a2 n2 c2 (insK y L)))) ∧ Below W.heap.size W w') := fun W hW => by
        have hT := TS3.out
        exact c_tI r a' n' c' L y W (hT.at.below hW) ((HTK.out y HY.out).kOK) (by have := rise_len hT.keys.rise HRI.out HL.out; have := HKN.out; omega)
      clear hc hy hbl
      go_wp2_with fail
      go_cut [9, 10] from 38 to 65 (fun s9 s10 wx => ∃ (r1 : Int) (a1 : Option Addr) (n1 c1 : Nat) (co : Int) (q : Nat), s9 = .pointer (some ⟨q, 0, none⟩) ∧ s10 = .int .i64 co ∧ Hid (w3.heap.size ≤ q) ∧ Hid (Box wx q 27 #[.int .i64 r1, .slice a1 n1 c1]) ∧ Hid (Below w3.heap.size w3 wx) ∧ Hid ((y ∈ L ∧ co = 9) ∨ (y ∉ L ∧ co = 0 ∧ TreeS wx (fun k => k ≠ g) r1 a1 n1 c1 (insK y L))))
      case first =>
        clear BX3 TS3 BW3
        go_region_held3 (fun y' => y'.cell? ⟨g, 0, none⟩ = some (.int .i64 r) ∧ y'.cell? ⟨g, 1, none⟩ = some (.slice a' n' c') ∧ y'.cell? ⟨kb, off + p, none⟩ = some (.string y))
          (first | exact KB.out | exact KP.out | go_keep)
          (first | (go_at_call 15
                    refine (CI.out _ (by first | exact Below.refl _ _ | exact (Below.refl _ _).drew | exact (Below.refl _ _).alloc (Nat.le_refl _) _ | exact ((Below.refl _ _).alloc (Nat.le_refl _) _).drew)).mono ?_
                    rintro e wB ⟨⟨r1, a1, n1, c1, co, rfl, hA⟩, hbB⟩
                    have HbB : Hid (Below w3.heap.size w3 wB) := Below.trans (by first | exact Below.refl _ _ | exact (Below.refl _ _).drew | exact (Below.refl _ _).alloc (Nat.le_refl _) _ | exact ((Below.refl _ _).alloc (Nat.le_refl _) _).drew) (hbB.mono (by first | exact Nat.le_refl _ | simp))
                    have sB : w3.heap.size ≤ wB.heap.size := HbB.out.size
                    have kb0 := farT HbB.out lg x0
                    have kb1 := farT HbB.out lg x1
                    have kb2 := farT HbB.out lk x2
                    have KB : Hid (wB.cell? ⟨g, 0, none⟩ = some (.int .i64 r) ∧ wB.cell? ⟨g, 1, none⟩ = some (.slice a' n' c') ∧ wB.cell? ⟨kb, off + p, none⟩ = some (.string y)) := ⟨kb0, kb1, kb2⟩
                    have HN : Hid ((y ∈ L ∧ co = 9) ∨ (y ∉ L ∧ co = 0 ∧ TreeS wB (fun k => k ≠ g) r1 a1 n1 c1 (insK y L))) := ans_low hA (Nat.lt_of_lt_of_le lg (by first | exact Nat.le_refl _ | simp))
                    first
                      | (have ZB := zbT_of hbB
                         have KP : Hid (((wB.setCell ⟨w3.heap.size, 0, none⟩ (.int .i64 r1)).setCell ⟨w3.heap.size, 1, none⟩ (.slice a1 n1 c1)).cell? ⟨g, 0, none⟩ = some (.int .i64 r) ∧ ((wB.setCell ⟨w3.heap.size, 0, none⟩ (.int .i64 r1)).setCell ⟨w3.heap.size, 1, none⟩ (.slice a1 n1 c1)).cell? ⟨g, 1, none⟩ = some (.slice a' n' c') ∧ ((wB.setCell ⟨w3.heap.size, 0, none⟩ (.int .i64 r1)).setCell ⟨w3.heap.size, 1, none⟩ (.slice a1 n1 c1)).cell? ⟨kb, off + p, none⟩ = some (.string y)) := ⟨(put2_far _ _ _ _ _ _ (by omega)).trans kb0, (put2_far _ _ _ _ _ _ (by omega)).trans kb1, (put2_far _ _ _ _ _ _ (by omega)).trans kb2⟩
                         have HP : Hid ((y ∈ L ∧ co = 9) ∨ (y ∉ L ∧ co = 0 ∧ TreeS ((wB.setCell ⟨w3.heap.size, 0, none⟩ (.int .i64 r1)).setCell ⟨w3.heap.size, 1, none⟩ (.slice a1 n1 c1)) (fun k => k ≠ g) r1 a1 n1 c1 (insK y L))) := ans_put hA (by simp) (by simp; omega)
                         have lB := ZB.lt
                         obtain ⟨z0, z1⟩ := box2T ZB
                         obtain ⟨t0, t1⟩ := thaw2T ZB)
                      | (have ZB := zbT_ofd hbB
                         have KP : Hid (((wB.setCell ⟨w3.heap.size, 0, none⟩ (.int .i64 r1)).setCell ⟨w3.heap.size, 1, none⟩ (.slice a1 n1 c1)).cell? ⟨g, 0, none⟩ = some (.int .i64 r) ∧ ((wB.setCell ⟨w3.heap.size, 0, none⟩ (.int .i64 r1)).setCell ⟨w3.heap.size, 1, none⟩ (.slice a1 n1 c1)).cell? ⟨g, 1, none⟩ = some (.slice a' n' c') ∧ ((wB.setCell ⟨w3.heap.size, 0, none⟩ (.int .i64 r1)).setCell ⟨w3.heap.size, 1, none⟩ (.slice a1 n1 c1)).cell? ⟨kb, off + p, none⟩ = some (.string y)) := ⟨(put2_far _ _ _ _ _ _ (by omega)).trans kb0, (put2_far _ _ _ _ _ _ (by omega)).trans kb1, (put2_far _ _ _ _ _ _ (by omega)).trans kb2⟩
                         have HP : Hid ((y ∈ L ∧ co = 9) ∨ (y ∉ L ∧ co = 0 ∧ TreeS ((wB.setCell ⟨w3.heap.size, 0, none⟩ (.int .i64 r1)).setCell ⟨w3.heap.size, 1, none⟩ (.slice a1 n1 c1)) (fun k => k ≠ g) r1 a1 n1 c1 (insK y L))) := ans_put hA (by simp) (by simp; omega)
                         have lB := ZB.lt
                         obtain ⟨z0, z1⟩ := box2T ZB
                         obtain ⟨t0, t1⟩ := thaw2T ZB)
                      | skip
                    clear hA hbB))
        all_goals (go_wp2_with fail; go_meet)
        all_goals first
          | exact ⟨r1, a1, n1, c1, co, wB.heap.size, rfl, rfl, sB, Box.new _ _ _, HbB.out.alloc sB _, ans_bel HN.out ((Below.refl _ _).alloc (Nat.le_refl _) _)⟩
          | exact ⟨r1, a1, n1, c1, co, w3.heap.size, rfl, rfl, Nat.le_refl _, put2_box ZB _ _, put2_below HbB.out (Nat.le_refl _) _ _, HP.out⟩
      case rest =>
        obtain ⟨r1, a1, n1, c1, co, q, rfl, rfl, HQ, BQ, BC, HA⟩ := hcut
        have BXc : Hid (Box wc g 27 #[.int .i64 r, .slice a' n' c']) := BX3.out.belowS BC.out
        have BWc : Hid (Below w1.heap.size w1 wc) := BW3.out.trans (BC.out.mono BW3.out.size)
        rcases HA.out with ⟨hin, rfl⟩ | ⟨hin, rfl, ht⟩
        · have TSc : Hid (TreeS wc (fun k => k ≠ g) r a' n' c' L) := TS3.out.below BC.out
          clear x0 x1 x2 hin
          go_wp2
          go_roundw
          case rel => exact ⟨k + 1, r, a', n', c', L, by omega, by go_num, BXc, TSc, HL, BWc⟩
          case measure => simp [intOf]; omega
        · have TSn : Hid (TreeS wc (fun k => k ≠ g) r1 a1 n1 c1 (insK y L)) := ht
          have HL' : Hid (∀ x ∈ insK y L, x ∈ K) := fun x hx => by
            rcases insK_mem.1 hx with rfl | hx
            · exact HY.out
            · exact HL.out x hx
          obtain ⟨z0, z1⟩ := box2T BQ.out
          obtain ⟨t0, t1⟩ := thaw2T BXc.out
          obtain ⟨s0, s1⟩ := box2T BXc.out
          clear x0 x1 x2 hin ht
          go_wp2
          go_roundw
          case rel => exact ⟨k + 1, r1, a1, n1, c1, insK y L, by omega, by go_num, put2_box BXc.out _ _, (TSn.out.set (by simp)).set (by simp), HL', put2_below BWc.out HG1.out _ _⟩
          case measure => simp [intOf]; omega
    · have e : k = kn := by omega
      subst e
      go_wp2_with fail
      go_loopw [11] (fun i wr => ∃ (j : Nat) (r : Int) (a' : Option Addr) (n' c' : Nat) (L : List ByteArray), j ≤ k ∧ i = .int .i64 j ∧ Hid (Box wr g 27 #[.int .i64 r, .slice a' n' c']) ∧ Hid (TreeS wr (fun k => k ≠ g) r a' n' c' L) ∧ Hid (∀ x ∈ L, x ∈ K) ∧ Hid (∀ i, i < j → K.getD i zS ∈ L) ∧ Hid (Below w1.heap.size w1 wr)) (fun i _ => k - (intOf i).toNat)
      case atStart => exact ⟨0, r, a', n', c', L, Nat.zero_le _, rfl, BX, TS, HL, fun i hi => absurd hi (Nat.not_lt_zero _), BW⟩
      case round =>
        clear BX TS BW HL
        obtain ⟨p, r, a', n', c', L, hp, rfl, BX3, TS3, HL, HJ, BW3⟩ := hrel
        obtain ⟨w3, hw3⟩ : ∃ x, x = wr := ⟨_, rfl⟩
        subst hw3
        by_cases hpn : p < k
        · have u0 : IntKind.i64.wrap ((p : Int) + 1) = (p : Int) + 1 := by rw [IntKind.wrap_i64]; omega
          obtain ⟨kb, off, rfl, hbl, hc⟩ := HRK.out.2 (by omega)
          obtain ⟨y, hy⟩ : ∃ y, K.getD p zS = y := ⟨_, rfl⟩
          have HY : Hid (y ∈ K) := by unfold Hid; rw [← hy, getD_get (by rw [HKN.out]; exact hpn)]; exact List.getElem_mem _
          have HYD : Hid (K.getD p zS = y) := hy
          have x2 : w3.cell? ⟨kb, off + p, none⟩ = some (.string y) := farT BW3.out hbl (by rw [hc p hpn, ← hy]; exact map_get _ _ _ _ (by rw [HKN.out]; exact hpn))
          obtain ⟨x0, x1⟩ := box2T BX3.out
          have lg : g < w3.heap.size := BX3.out.lt
          have lk : kb < w3.heap.size := Nat.lt_of_lt_of_le hbl BW3.out.size
          have hkg : kb ≠ g := by have := HG1.out; omega
          have g1 : (0 : Int) ≤ (p : Int) := by omega
          have g2 : (p : Int) < (k : Int) := by omega
          have CI : Hid (∀ W, Below w3.heap.size w3 W → Calls Try.prog 15 #[.agg #[.int .i64 r, .slice a' n' c'], .string y] W fun e w' => (∃ r' a2 n2 c2 co, e = .returned (.tuple #[.agg #[.int .i64 r', .slice a2 n2 c2], .int .i64 co]) ∧ ((y ∈ L ∧ co = 9) ∨ (y ∉ L ∧ co = 0 ∧ TreeS w' (fun k => W.heap.size ≤ k) r' a2 n2 c2 (insK y L)))) ∧ Below W.heap.size W w') := fun W hW => by
            have hT := TS3.out
            exact c_tI r a' n' c' L y W (hT.at.below hW) ((HTK.out y HY.out).kOK) (by have := rise_len hT.keys.rise HRI.out HL.out; have := HKN.out; omega)
          clear hc hy hbl
          go_wp2_with fail
          go_cut [12, 13] from 66 to 85 (fun s9 s10 wx => ∃ (r1 : Int) (a1 : Option Addr) (n1 c1 : Nat) (co : Int) (q : Nat), s9 = .pointer (some ⟨q, 0, none⟩) ∧ s10 = .int .i64 co ∧ Hid (w3.heap.size ≤ q) ∧ Hid (Box wx q 27 #[.int .i64 r1, .slice a1 n1 c1]) ∧ Hid (Below w3.heap.size w3 wx) ∧ Hid ((y ∈ L ∧ co = 9) ∨ (y ∉ L ∧ co = 0 ∧ TreeS wx (fun k => k ≠ g) r1 a1 n1 c1 (insK y L))))
          case first =>
            clear BX3 TS3 BW3
            go_region_held3 (fun y' => y'.cell? ⟨g, 0, none⟩ = some (.int .i64 r) ∧ y'.cell? ⟨g, 1, none⟩ = some (.slice a' n' c') ∧ y'.cell? ⟨kb, off + p, none⟩ = some (.string y))
              (first | exact KB.out | exact KP.out | go_keep)
              (first | (go_at_call 15
                        refine (CI.out _ (by first | exact Below.refl _ _ | exact (Below.refl _ _).drew | exact (Below.refl _ _).alloc (Nat.le_refl _) _ | exact ((Below.refl _ _).alloc (Nat.le_refl _) _).drew)).mono ?_
                        rintro e wB ⟨⟨r1, a1, n1, c1, co, rfl, hA⟩, hbB⟩
                        have HbB : Hid (Below w3.heap.size w3 wB) := Below.trans (by first | exact Below.refl _ _ | exact (Below.refl _ _).drew | exact (Below.refl _ _).alloc (Nat.le_refl _) _ | exact ((Below.refl _ _).alloc (Nat.le_refl _) _).drew) (hbB.mono (by first | exact Nat.le_refl _ | simp))
                        have sB : w3.heap.size ≤ wB.heap.size := HbB.out.size
                        have kb0 := farT HbB.out lg x0
                        have kb1 := farT HbB.out lg x1
                        have kb2 := farT HbB.out lk x2
                        have KB : Hid (wB.cell? ⟨g, 0, none⟩ = some (.int .i64 r) ∧ wB.cell? ⟨g, 1, none⟩ = some (.slice a' n' c') ∧ wB.cell? ⟨kb, off + p, none⟩ = some (.string y)) := ⟨kb0, kb1, kb2⟩
                        have HN : Hid ((y ∈ L ∧ co = 9) ∨ (y ∉ L ∧ co = 0 ∧ TreeS wB (fun k => k ≠ g) r1 a1 n1 c1 (insK y L))) := ans_low hA (Nat.lt_of_lt_of_le lg (by first | exact Nat.le_refl _ | simp))
                        first
                          | (have ZB := zbT_of hbB
                             have KP : Hid (((wB.setCell ⟨w3.heap.size, 0, none⟩ (.int .i64 r1)).setCell ⟨w3.heap.size, 1, none⟩ (.slice a1 n1 c1)).cell? ⟨g, 0, none⟩ = some (.int .i64 r) ∧ ((wB.setCell ⟨w3.heap.size, 0, none⟩ (.int .i64 r1)).setCell ⟨w3.heap.size, 1, none⟩ (.slice a1 n1 c1)).cell? ⟨g, 1, none⟩ = some (.slice a' n' c') ∧ ((wB.setCell ⟨w3.heap.size, 0, none⟩ (.int .i64 r1)).setCell ⟨w3.heap.size, 1, none⟩ (.slice a1 n1 c1)).cell? ⟨kb, off + p, none⟩ = some (.string y)) := ⟨(put2_far _ _ _ _ _ _ (by omega)).trans kb0, (put2_far _ _ _ _ _ _ (by omega)).trans kb1, (put2_far _ _ _ _ _ _ (by omega)).trans kb2⟩
                             have HP : Hid ((y ∈ L ∧ co = 9) ∨ (y ∉ L ∧ co = 0 ∧ TreeS ((wB.setCell ⟨w3.heap.size, 0, none⟩ (.int .i64 r1)).setCell ⟨w3.heap.size, 1, none⟩ (.slice a1 n1 c1)) (fun k => k ≠ g) r1 a1 n1 c1 (insK y L))) := ans_put hA (by simp) (by simp; omega)
                             have lB := ZB.lt
                             obtain ⟨z0, z1⟩ := box2T ZB
                             obtain ⟨t0, t1⟩ := thaw2T ZB)
                          | (have ZB := zbT_ofd hbB
                             have KP : Hid (((wB.setCell ⟨w3.heap.size, 0, none⟩ (.int .i64 r1)).setCell ⟨w3.heap.size, 1, none⟩ (.slice a1 n1 c1)).cell? ⟨g, 0, none⟩ = some (.int .i64 r) ∧ ((wB.setCell ⟨w3.heap.size, 0, none⟩ (.int .i64 r1)).setCell ⟨w3.heap.size, 1, none⟩ (.slice a1 n1 c1)).cell? ⟨g, 1, none⟩ = some (.slice a' n' c') ∧ ((wB.setCell ⟨w3.heap.size, 0, none⟩ (.int .i64 r1)).setCell ⟨w3.heap.size, 1, none⟩ (.slice a1 n1 c1)).cell? ⟨kb, off + p, none⟩ = some (.string y)) := ⟨(put2_far _ _ _ _ _ _ (by omega)).trans kb0, (put2_far _ _ _ _ _ _ (by omega)).trans kb1, (put2_far _ _ _ _ _ _ (by omega)).trans kb2⟩
                             have HP : Hid ((y ∈ L ∧ co = 9) ∨ (y ∉ L ∧ co = 0 ∧ TreeS ((wB.setCell ⟨w3.heap.size, 0, none⟩ (.int .i64 r1)).setCell ⟨w3.heap.size, 1, none⟩ (.slice a1 n1 c1)) (fun k => k ≠ g) r1 a1 n1 c1 (insK y L))) := ans_put hA (by simp) (by simp; omega)
                             have lB := ZB.lt
                             obtain ⟨z0, z1⟩ := box2T ZB
                             obtain ⟨t0, t1⟩ := thaw2T ZB)
                          | skip
                        clear hA hbB))
            all_goals (go_wp2_with fail; go_meet)
            all_goals first
              | exact ⟨r1, a1, n1, c1, co, wB.heap.size, rfl, rfl, sB, Box.new _ _ _, HbB.out.alloc sB _, ans_bel HN.out ((Below.refl _ _).alloc (Nat.le_refl _) _)⟩
              | exact ⟨r1, a1, n1, c1, co, w3.heap.size, rfl, rfl, Nat.le_refl _, put2_box ZB _ _, put2_below HbB.out (Nat.le_refl _) _ _, HP.out⟩
          case rest =>
            obtain ⟨r1, a1, n1, c1, co, q, rfl, rfl, HQ, BQ, BC, HA⟩ := hcut
            have BXc : Hid (Box wc g 27 #[.int .i64 r, .slice a' n' c']) := BX3.out.belowS BC.out
            have BWc : Hid (Below w1.heap.size w1 wc) := BW3.out.trans (BC.out.mono BW3.out.size)
            rcases HA.out with ⟨hin, rfl⟩ | ⟨hin, rfl, ht⟩
            · have TSc : Hid (TreeS wc (fun k => k ≠ g) r a' n' c' L) := TS3.out.below BC.out
              have HJ' : Hid (∀ i, i < p + 1 → K.getD i zS ∈ L) := fun i hi => by
                by_cases e : i = p
                · rw [e, HYD.out]; exact hin
                · exact HJ.out i (by omega)
              clear x0 x1 x2 hin
              go_wp2
              go_roundw
              case rel => exact ⟨p + 1, r, a', n', c', L, by omega, by go_num, BXc, TSc, HL, HJ', BWc⟩
              case measure => simp [intOf]; omega
            · have TSn : Hid (TreeS wc (fun k => k ≠ g) r1 a1 n1 c1 (insK y L)) := ht
              have HL' : Hid (∀ x ∈ insK y L, x ∈ K) := fun x hx => by
                rcases insK_mem.1 hx with rfl | hx
                · exact HY.out
                · exact HL.out x hx
              have HJ' : Hid (∀ i, i < p + 1 → K.getD i zS ∈ insK y L) := fun i hi => by
                by_cases e : i = p
                · rw [e, HYD.out]; exact insK_mem.2 (.inl rfl)
                · exact insK_mem.2 (.inr (HJ.out i (by omega)))
              obtain ⟨z0, z1⟩ := box2T BQ.out
              obtain ⟨t0, t1⟩ := thaw2T BXc.out
              obtain ⟨s0, s1⟩ := box2T BXc.out
              clear x0 x1 x2 hin ht
              go_wp2
              go_roundw
              case rel => exact ⟨p + 1, r1, a1, n1, c1, insK y L, by omega, by go_num, put2_box BXc.out _ _, (TSn.out.set (by simp)).set (by simp), HL', HJ', put2_below BWc.out HG1.out _ _⟩
              case measure => simp [intOf]; omega
        · obtain rfl : p = k := by omega
          have HLK : Hid (L = K) := rise_ext TS3.out.keys.rise HRI.out fun x => ⟨HL.out x, fun hx => by
            obtain ⟨i, hi⟩ := List.mem_iff_getElem?.1 hx
            have hl := (List.getElem?_eq_some_iff.1 hi).1
            have := HJ.out i (by rw [← HKN.out]; exact hl)
            rw [List.getD_eq_getElem?_getD, hi] at this
            exact this⟩
          have TK3 : Hid (TreeS w3 (fun k => k ≠ g) r a' n' c' K) := by have := TS3.out; rw [HLK.out] at this; exact this
          obtain ⟨x0, x1⟩ := box2T BX3.out
          have CR := c_tR r a' n' c' K ⟨#[]⟩ ⟨#[122, 122, 122]⟩ w3 TK3.out.at (by decide) (by decide)
          rw [rg_all HTK.out, HKN.out] at CR
          clear HL HJ HLK TS3
          go_wp2_with fail
          refine CR.mono ?_
          rintro e w4 ⟨⟨la, lc, rfl, rl⟩, hb4⟩
          have BX4 : Hid (Box w4 g 27 #[.int .i64 r, .slice a' n' c']) := BX3.out.belowS hb4
          have TK4 : Hid (TreeS w4 (fun k => k ≠ g) r a' n' c' K) := TK3.out.below hb4
          have BW4 : Hid (Below w1.heap.size w1 w4) := BW3.out.trans (hb4.mono BW3.out.size)
          have CS := c_same la ka p lc kc K w4 rl (HRK.out.below BW4.out) (by omega)
          clear CR hb4 BX3 TK3 BW3 rl x0 x1
          go_wp2_with fail
          refine CS.mono ?_
          rintro e w5 ⟨rfl, hb5⟩
          have BX5 : Hid (Box w5 g 27 #[.int .i64 r, .slice a' n' c']) := BX4.out.belowS hb5
          have TK5 : Hid (TreeS w5 (fun k => k ≠ g) r a' n' c' K) := TK4.out.below hb5
          have BW5 : Hid (Below w1.heap.size w1 w5) := BW4.out.trans (hb5.mono BW4.out.size)
          have CP := c_tP r a' n' c' K w5 TK5.out.at
          obtain ⟨x0, x1⟩ := box2T BX5.out
          clear CS hb5 BX4 TK4 BW4
          go_wp2_with fail
          refine CP.mono ?_
          rintro e w6 ⟨rfl, hb6⟩
          have BX6 : Hid (Box w6 g 27 #[.int .i64 r, .slice a' n' c']) := BX5.out.belowS hb6
          have TK6 : Hid (TreeS w6 (fun k => k ≠ g) r a' n' c' K) := TK5.out.below hb6
          have BW6 : Hid (Below w1.heap.size w1 w6) := BW5.out.trans (hb6.mono BW5.out.size)
          clear CP hb6 BX5 TK5 BW5 x0 x1
          by_cases hp0 : p = 0
          · subst hp0
            go_wp2
            go_ret
            exact ⟨rfl, HB1.out.trans (BW6.out.mono HB1.out.size)⟩
          · have np : ((p : Int) == 0) = false := by simp; omega
            have CB := C1.out w6 p h47 (by omega) (HB1.out.trans (BW6.out.mono HB1.out.size))
            go_wp2_with fail
            refine CB.mono ?_
            rintro e w7 ⟨⟨q7, rfl, q0, q1⟩, hb7⟩
            obtain ⟨s, rfl⟩ : ∃ s : Nat, q7 = (s : Int) := ⟨q7.toNat, by omega⟩
            have hsn : s < p := by omega
            have BX7 : Hid (Box w7 g 27 #[.int .i64 r, .slice a' n' c']) := BX6.out.belowS hb7
            have TK7 : Hid (TreeS w7 (fun k => k ≠ g) r a' n' c' K) := TK6.out.below hb7
            have BW7 : Hid (Below w1.heap.size w1 w7) := BW6.out.trans (hb7.mono BW6.out.size)
            obtain ⟨kb, off, rfl, hbl, hc⟩ := HRK.out.2 (by omega)
            obtain ⟨y, hy⟩ : ∃ y, K.getD s zS = y := ⟨_, rfl⟩
            have HY : Hid (y ∈ K) := by unfold Hid; rw [← hy, getD_get (by rw [HKN.out]; exact hsn)]; exact List.getElem_mem _
            have x2 : w7.cell? ⟨kb, off + s, none⟩ = some (.string y) := farT BW7.out hbl (by rw [hc s hsn, ← hy]; exact map_get _ _ _ _ (by rw [HKN.out]; exact hsn))
            have g1 : (0 : Int) ≤ (s : Int) := by omega
            have g2 : (s : Int) < (p : Int) := by omega
            have CD := c_tD r a' n' c' K y w7 TK7.out.at HY.out
            obtain ⟨x0, x1⟩ := box2T BX7.out
            clear CB hb7 BX6 TK6 BW6 hc hy hbl
            go_wp2_with fail
            refine CD.mono ?_
            rintro e w8 ⟨⟨r8, a8, n8, c8, rfl, t8⟩, hb8⟩
            clear x0 x1 x2 CD
            obtain ⟨w9, hw9⟩ : ∃ W, w8.alloc (.cells #[.int .i64 r8, .slice a8 n8 c8] 27) = W := ⟨_, rfl⟩
            have hb9 : Below w8.heap.size w8 w9 := by rw [← hw9]; exact (Below.refl _ _).alloc (Nat.le_refl _) _
            have hb79 : Below w7.heap.size w7 w9 := hb8.trans (hb9.mono hb8.size)
            have BX9 : Hid (Box w9 g 27 #[.int .i64 r, .slice a' n' c']) := BX7.out.belowS hb79
            have TK9 : Hid (TreeS w9 (fun k => k ≠ g) r a' n' c' K) := TK7.out.below hb79
            have BW9 : Hid (Below w1.heap.size w1 w9) := BW7.out.trans (hb79.mono BW7.out.size)
            have BG9 : Hid (Box w9 w8.heap.size 27 #[.int .i64 r8, .slice a8 n8 c8]) := by unfold Hid; rw [← hw9]; exact Box.new _ _ _
            have TG9 : Hid (TreeAt w9 r8 a8 n8 c8 (delK y K)) := t8.at.below hb9
            obtain ⟨u, hu⟩ : ∃ u, w8.heap.size = u := ⟨_, rfl⟩
            have HYK : Hid (kOK y = true) := (HTK.out y HY.out).kOK
            have CF := c_tF r a' n' c' K y w9 TK9.out.at HYK.out
            obtain ⟨x0, x1⟩ := box2T BX9.out
            clear hb8 hb79 t8 BX7 TK7 BW7 hb9
            go_wp2_with fail
            clear hw9
            rw [hu] at BG9
            refine CF.mono ?_
            rintro e w10 ⟨⟨b1, rfl, hyes⟩, hb10⟩
            have hb1 : b1 = true := hyes.2 HY.out
            subst hb1
            have BW10 : Hid (Below w1.heap.size w1 w10) := BW9.out.trans (hb10.mono BW9.out.size)
            have BG10 : Hid (Box w10 u 27 #[.int .i64 r8, .slice a8 n8 c8]) := BG9.out.belowS hb10
            have TG10 : Hid (TreeAt w10 r8 a8 n8 c8 (delK y K)) := TG9.out.below hb10
            have CG := c_tF r8 a8 n8 c8 (delK y K) y w10 TG10.out HYK.out
            clear x0 x1 CF hyes hb10 BX9 TK9 BW9 BG9 TG9 hu
            obtain ⟨x0, x1⟩ := box2T BG10.out
            go_wp2_with fail
            refine CG.mono ?_
            rintro e w11 ⟨⟨b2, rfl, hno⟩, hb11⟩
            have HND : Hid (y ∉ delK y K) := fun hm => ((delK_mem HRI.out HY.out).1 hm).2 rfl
            have hb2 : b2 = false := by cases b2 with | false => rfl | true => exact absurd (hno.1 rfl) HND.out
            subst hb2
            have BW11 : Hid (Below w1.heap.size w1 w11) := BW10.out.trans (hb11.mono BW10.out.size)
            have BG11 : Hid (Box w11 u 27 #[.int .i64 r8, .slice a8 n8 c8]) := BG10.out.belowS hb11
            have TG11 : Hid (TreeAt w11 r8 a8 n8 c8 (delK y K)) := TG10.out.below hb11
            have CI := c_tI r8 a8 n8 c8 (delK y K) y w11 TG11.out HYK.out (by have := delK_len HRI.out HY.out; have := HKN.out; omega)
            clear x0 x1 CG hno hb11 BW10 BG10 TG10
            obtain ⟨x0, x1⟩ := box2T BG11.out
            go_wp2_with fail
            refine CI.mono ?_
            rintro e w12 ⟨⟨r12, a12, n12, c12, co, rfl, hco⟩, hb12⟩
            have hin : insK y (delK y K) = K := rise_ext (insK_rise (delK_rise HRI.out HY.out) HND.out) HRI.out fun x => by
              rw [insK_mem, delK_mem HRI.out HY.out]
              constructor
              · rintro (rfl | h)
                · exact HY.out
                · exact h.1
              · intro h
                by_cases e : x = y
                · exact .inl e
                · exact .inr ⟨h, e⟩
            obtain ⟨rfl, t12⟩ : co = 0 ∧ TreeAt w12 r12 a12 n12 c12 K := by
              rcases hco with ⟨h, _⟩ | ⟨_, h, ht⟩
              · exact absurd h HND.out
              · rw [hin] at ht; exact ⟨h, ht.at⟩
            clear hco hin x0 x1
            obtain ⟨w13, hw13⟩ : ∃ W, w12.alloc (.cells #[.int .i64 r12, .slice a12 n12 c12] 27) = W := ⟨_, rfl⟩
            have hb13 : Below w12.heap.size w12 w13 := by rw [← hw13]; exact (Below.refl _ _).alloc (Nat.le_refl _) _
            have hbb : Below w11.heap.size w11 w13 := hb12.trans (hb13.mono hb12.size)
            have BW13 : Hid (Below w1.heap.size w1 w13) := BW11.out.trans (hbb.mono BW11.out.size)
            have BG13 : Hid (Box w13 u 27 #[.int .i64 r8, .slice a8 n8 c8]) := BG11.out.belowS hbb
            have TG13 : Hid (TreeAt w13 r8 a8 n8 c8 (delK y K)) := TG11.out.below hbb
            have CR := c_tR r12 a12 n12 c12 K ⟨#[]⟩ ⟨#[122, 122, 122]⟩ w13 (t12.below hb13) (by decide) (by decide)
            rw [rg_all HTK.out, HKN.out] at CR
            have BK13 : Box w13 w12.heap.size 27 #[.int .i64 r12, .slice a12 n12 c12] := by rw [← hw13]; exact Box.new _ _ _
            obtain ⟨x0, x1⟩ := box2T BK13
            clear CI hb12 hbb hb13 t12 BW11 BG11 TG11 BK13
            go_wp2_with fail
            clear hw13 x0 x1
            refine CR.mono ?_
            rintro e w14 ⟨⟨la4, lc4, rfl, rl4⟩, hb14⟩
            have BW14 : Hid (Below w1.heap.size w1 w14) := BW13.out.trans (hb14.mono BW13.out.size)
            have BG14 : Hid (Box w14 u 27 #[.int .i64 r8, .slice a8 n8 c8]) := BG13.out.belowS hb14
            have TG14 : Hid (TreeAt w14 r8 a8 n8 c8 (delK y K)) := TG13.out.below hb14
            have CS := c_same la4 (some ⟨kb, off, none⟩) p lc4 kc K w14 rl4 (HRK.out.below BW14.out) (by omega)
            clear CR hb14 BW13 BG13 TG13 rl4
            go_wp2_with fail
            refine CS.mono ?_
            rintro e w15 ⟨rfl, hb15⟩
            have BW15 : Hid (Below w1.heap.size w1 w15) := BW14.out.trans (hb15.mono BW14.out.size)
            have BG15 : Hid (Box w15 u 27 #[.int .i64 r8, .slice a8 n8 c8]) := BG14.out.belowS hb15
            have CP := c_tP r8 a8 n8 c8 (delK y K) w15 (TG14.out.below hb15)
            obtain ⟨x0, x1⟩ := box2T BG15.out
            clear CS hb15 BW14 BG14 TG14
            go_wp2_with fail
            refine CP.mono ?_
            rintro e w16 ⟨rfl, hb16⟩
            have BW16 : Hid (Below w.heap.size w w16) := HB1.out.trans ((BW15.out.trans (hb16.mono BW15.out.size)).mono HB1.out.size)
            clear CP hb16 x0 x1
            go_wp2
            go_ret
            exact ⟨rfl, BW16.out⟩

end Go.Proofs.Ythnggpjgajkaeaa
