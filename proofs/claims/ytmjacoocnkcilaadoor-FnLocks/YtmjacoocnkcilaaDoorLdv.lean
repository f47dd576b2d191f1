/-
  The walk of the law of FnLocks.
-/
import Derived.Test.YtmjacoocnkcilaaDoorLdj
import Derived.Deep.QuietTactic
import Derived.BigQuiet
import Derived.Deep.DeepCutAuto
import Derived.Deep.RegionHeld3
namespace Go.Proofs.YtmjacoocnkcilaaDoor
open Go Go.RowKit
attribute [local go_sem ↓] Go.wp_at_zero Go.wp_at_succ

theorem zb_of {w w' : World} (hb : Below (w.alloc (.cells #[.slice none 0 0, .slice none 0 0] 34)).heap.size (w.alloc (.cells #[.slice none 0 0, .slice none 0 0] 34)) w') : Box w' w.heap.size 34 #[.slice none 0 0, .slice none 0 0] := (Box.new w #[.slice none 0 0, .slice none 0 0] 34).belowS hb
theorem zb_ofd {w w' : World} (hb : Below (w.alloc (.cells #[.slice none 0 0, .slice none 0 0] 34)).drew.heap.size (w.alloc (.cells #[.slice none 0 0, .slice none 0 0] 34)).drew w') : Box w' w.heap.size 34 #[.slice none 0 0, .slice none 0 0] := (show Box (w.alloc (.cells #[.slice none 0 0, .slice none 0 0] 34)).drew w.heap.size 34 #[.slice none 0 0, .slice none 0 0] from Box.new w #[.slice none 0 0, .slice none 0 0] 34).belowS hb
theorem put2_cell (w : World) (g b o : Nat) (x y : Value) (h : b ≠ g) : (put2 w g x y).cell? ⟨b, o, none⟩ = w.cell? ⟨b, o, none⟩ := by
  unfold put2
  have h1 := Below.heap_setCell (w.setCell ⟨g, 0, none⟩ x) ⟨g, 1, none⟩ y b h
  have h2 := Below.heap_setCell w ⟨g, 0, none⟩ x b h
  simp [World.cell?, h1, h2]
theorem rp_of {w : World} {g B : Nat} {h : HL} {vs : List LK} {ws : List WK} (o : OwnL w B h vs ws) (hg : g < B) : RdL (put2 w g (.slice h.a0 vs.length h.c0) (.slice h.a1 ws.length h.c1)) h vs ws := by
  have ra := own_rng o.1
  have rb := own_rng o.2.1
  exact OwnL.rd (base := B) ⟨own_inn o.1 (put2_inn _ _) (fun k hk => .inr (by have := ra k hk; omega)), own_inn o.2.1 (put2_inn _ _) (fun k hk => .inr (by have := rb k hk; omega)), o.2.2⟩
set_option maxRecDepth 100000 in
set_option maxHeartbeats 16000000 in
theorem law_FnLocks (a : Option Addr) (n c : Nat) (zs : List Int) (a' : Option Addr) (n' c' : Nat) (zs' : List Int) (w : World) (hr : RdV w a n (zs.map (Value.int .u8))) (hz : ∀ z ∈ zs, 0 ≤ z ∧ z < 256) (hr' : RdV w a' n' (zs'.map (Value.int .u8))) (hz' : ∀ z ∈ zs', 0 ≤ z ∧ z < 256) (ht : FitH w) (htz : TabZ w) :
    Calls Tryd.prog 10 #[.slice a n c, .slice a' n' c'] w fun e w' => e = .returned (.bool true) ∧ Below w.heap.size w w' := by
  have R : Hid (RdV w a n (zs.map (Value.int .u8))) := hr
  have R' : Hid (RdV w a' n' (zs'.map (Value.int .u8))) := hr'
  have HZ : Hid (∀ z ∈ zs, 0 ≤ z ∧ z < 256) := hz
  have HZ' : Hid (∀ z ∈ zs', 0 ≤ z ∧ z < 256) := hz'
  have HT : Hid (FitH w) := ht
  have HTZ : Hid (TabZ w) := htz
  clear hr hr' hz hz' ht htz
  go_enter Tryd.func10, Tryd.ntmps10
  by_cases h1 : 1048576 < n
  · have c1 : (1048576 : Int) < (n : Int) := by omega
    go_wp2
    go_ret
    exact ⟨rfl, Below.refl _ _⟩
  have c1 : ¬ (1048576 : Int) < (n : Int) := by omega
  by_cases h2 : 1048576 < n'
  · have c2 : (1048576 : Int) < (n' : Int) := by omega
    go_wp2
    go_ret
    exact ⟨rfl, Below.refl _ _⟩
  have c2 : ¬ (1048576 : Int) < (n' : Int) := by omega
  go_wp2_with fail
  refine (c_locksOf a n c zs w R.out HZ.out (by omega)).mono ?_
  rintro e w1 ⟨⟨h1', vs, ws, rfl, hok, o1⟩, hb⟩
  have HOK : Hid (okLs vs ws = true) := hok
  obtain ⟨f0, f1, _, _⟩ := okLs_parts hok
  obtain ⟨w1b, hw1b⟩ : ∃ Q, w1.alloc (.cells #[.slice h1'.a0 (vs).length h1'.c0, .slice h1'.a1 (ws).length h1'.c1] 34) = Q := ⟨_, rfl⟩
  have hb1b : Below w1.heap.size w1 w1b := by rw [← hw1b]; exact (Below.refl _ _).alloc (Nat.le_refl _) _
  have X1 : Hid (Box w1b w1.heap.size 34 #[.slice h1'.a0 (vs).length h1'.c0, .slice h1'.a1 (ws).length h1'.c1]) := by unfold Hid; rw [← hw1b]; exact Box.new _ _ _
  have B1 : Hid (Below w.heap.size w w1b) := hb.trans (hb1b.mono hb.size)
  have O1 : Hid (OwnL w1b w.heap.size h1' vs ws) := o1.below hb1b
  have R1 : Hid (RdV w1b a' n' (zs'.map (Value.int .u8))) := R'.out.below (hb.trans (hb1b.mono hb.size))
  clear hb hb1b o1 hok
  go_wp2_with fail
  refine (c_askOf a' n' c' zs' w1b R1.out HZ'.out (by omega)).mono ?_
  rintro e wd ⟨⟨g, x, b, r, m, rfl, hk, ar⟩, hb⟩
  have BD : Hid (Below w.heap.size w wd) := B1.out.trans (hb.mono B1.out.size)
  have XD : Hid (Box wd w1.heap.size 34 #[.slice h1'.a0 (vs).length h1'.c0, .slice h1'.a1 (ws).length h1'.c1]) := X1.out.belowS hb
  have OD : Hid (OwnL wd w.heap.size h1' vs ws) := O1.out.below hb
  have AD : Hid (AskR wd g x b r m) := ar
  have HK : Hid (okK ⟨x, b, r, m⟩ = true) := hk
  obtain ⟨U, T, C, e1, e2, e3, hokU, e4, e5, e6, e7, e8, hC⟩ := take_facts vs ws x b r m HOK.out hk
  obtain ⟨u0, u1, _, _⟩ := okLs_parts hokU
  have HC : Hid (C = 0 ∨ C = 7 ∨ (C ≠ 0 ∧ C ≠ 7 ∧ vs.any (clB x b r m) = true)) := hC
  have TD : Hid (FitH wd) := HT.out.below BD.out
  have ZD : Hid (TabZ wd) := HTZ.out.below BD.out
  have CI : Hid (∀ (W : World), Below wd.heap.size wd W → Calls Tryd.prog 34 #[.agg #[.slice h1'.a0 (vs).length h1'.c0, .slice h1'.a1 (ws).length h1'.c1], .int .i64 x, .int .i64 b, .int .i64 r, .int .i64 m] W fun e w' => (∃ h' : HL, e = .returned (.tuple #[.agg #[.slice h'.a0 (U).length h'.c0, .slice h'.a1 (T).length h'.c1], .int .i64 C]) ∧ OwnL w' W.heap.size h' U T) ∧ Below W.heap.size W w') := fun W hW => by
    have := c_implTL h1' vs ws x b r m W (OD.out.rd.below hW) (by omega) (by omega) (TD.out.below hW) (ZD.out.below hW) (fun e => own_src OD.out.1 e) (fun e => own_src OD.out.2.1 e)
    rw [e1, e2, e3] at this
    exact this
  have CS : Hid (∀ (W : World), Below wd.heap.size wd W → Calls Tryd.prog 33 #[.agg #[.slice h1'.a0 (vs).length h1'.c0, .slice h1'.a1 (ws).length h1'.c1], .int .i64 x, .int .i64 b, .int .i64 r, .int .i64 m] W fun e w' => (∃ h' : HL, e = .returned (.tuple #[.agg #[.slice h'.a0 (U).length h'.c0, .slice h'.a1 (T).length h'.c1], .int .i64 C]) ∧ OwnL w' W.heap.size h' U T) ∧ Below W.heap.size W w') := fun W hW => by
    have := c_specTL h1' vs ws x b r m W (OD.out.rd.below hW) (by omega) (by omega) (fun e => own_src OD.out.1 e) (fun e => own_src OD.out.2.1 e)
    rw [e1, e2, e3] at this
    exact this
  have CO : Hid (∀ (W : World) (h : HL), Below wd.heap.size wd W → RdL W h U T → Calls Tryd.prog 18 #[.agg #[.slice h.a0 (U).length h.c0, .slice h.a1 (T).length h.c1]] W fun e w' => e = .returned (.bool true) ∧ Below W.heap.size W w') := fun W h hW rd => by
    have := c_implLO h U T W rd (by omega) (by omega) (TD.out.below hW)
    rw [hokU] at this
    exact this
  obtain ⟨q0, hq0⟩ : ∃ q : Bool, decide (C = 0) = q := ⟨_, rfl⟩
  have HQ0 : Hid ((C == 0) = q0) := by unfold Hid; rw [← hq0]; by_cases h : C = 0 <;> simp [h]
  have CH : Hid (∀ (W : World) (h : HL), Below wd.heap.size wd W → RdL W h U T → Calls Tryd.prog 21 #[.agg #[.slice h.a0 (U).length h.c0, .slice h.a1 (T).length h.c1], .int .i64 x, .int .i64 b, .int .i64 r, .int .i64 m] W fun e w' => e = .returned (.tuple #[.bool q0, .int .i64 0]) ∧ Below W.heap.size W w') := fun W h hW rd => by
    have := c_implHL h U T x b r m W rd (by omega) (by omega) (TD.out.below hW)
    rw [e4, e5, hq0] at this
    exact this
  have CW : Hid (∀ (W : World) (h : HL), Below wd.heap.size wd W → RdL W h U T → Calls Tryd.prog 32 #[.agg #[.slice h.a0 (U).length h.c0, .slice h.a1 (T).length h.c1], .int .i64 x] W fun e w' => e = .returned (.tuple #[.bool false, .int .i64 0]) ∧ Below W.heap.size W w') := fun W h hW rd => by
    have := c_implWR h U T x W rd (by omega) (by omega) (TD.out.below hW) (ZD.out.below hW)
    rw [e6, e7] at this
    exact this
  obtain ⟨ln, hln⟩ : ∃ n : Nat, (loR U T x).length = n := ⟨_, rfl⟩
  have CL : Hid (∀ (W : World) (h : HL), Below wd.heap.size wd W → RdL W h U T → Calls Tryd.prog 23 #[.agg #[.slice h.a0 (U).length h.c0, .slice h.a1 (T).length h.c1], .int .i64 x] W fun e w' => (∃ ha hc, e = .returned (.tuple #[.slice ha ln hc, .int .i64 0])) ∧ Below W.heap.size W w') := fun W h hW rd => by
    refine (c_implLT h U T x W rd (by omega) (by omega) (TD.out.below hW)).mono ?_
    rintro e w' ⟨⟨ha, hc, he, _⟩, hb⟩
    rw [hln, e8] at he
    exact ⟨⟨ha, hc, he⟩, hb⟩
  have CM : Hid (∀ (W : World) (h : HL), Below wd.heap.size wd W → RdL W h U T → Calls Tryd.prog 22 #[.agg #[.slice h.a0 (U).length h.c0, .slice h.a1 (T).length h.c1], .int .i64 x] W fun e w' => (∃ ha hc, e = .returned (.tuple #[.slice ha ln hc, .int .i64 0])) ∧ Below W.heap.size W w') := fun W h hW rd => by
    refine (c_specLT h U T x W rd (by omega) (by omega)).mono ?_
    rintro e w' ⟨⟨ha, hc, he, _⟩, hb⟩
    rw [hln, e8] at he
    exact ⟨⟨ha, hc, he⟩, hb⟩
  have SD : Hid (Below wd.heap.size wd wd) := Below.refl _ _
  clear hb ar hk hokU e1 e2 e3 e4 e5 e6 e7 e8 hC X1 B1 O1 R1 hw1b hln hq0
  obtain ⟨x0, x1⟩ := box2 XD.out
  obtain ⟨lg, a0, a1, a2, a3⟩ := AD.out
  go_wp2_with fail
  have lx : w1.heap.size < wd.heap.size := XD.out.lt
  go_cut [7, 8] (fun s7 s8 wx => ∃ (h3 : HL) (g3 : Nat), s7 = .pointer (some ⟨g3, 0, none⟩) ∧ s8 = .int .i64 C ∧ Hid (Below wd.heap.size wd wx) ∧ Hid (RdL wx h3 U T) ∧ Hid (Box wx g3 34 #[.slice h3.a0 (U).length h3.c0, .slice h3.a1 (T).length h3.c1]))
  case first =>
    as_aux_lemma =>
      clear CS CO CH CW CL CM HC TD ZD HK BD OD HOK R R' HZ HZ' HT HTZ f0 f1 u0 u1
      go_region_held3 (fun y => y.cell? ⟨w1.heap.size, 0, none⟩ = some (.slice h1'.a0 (vs).length h1'.c0) ∧ y.cell? ⟨w1.heap.size, 1, none⟩ = some (.slice h1'.a1 (ws).length h1'.c1) ∧ y.cell? ⟨g, 0, none⟩ = some (.int .i64 x) ∧ y.cell? ⟨g, 1, none⟩ = some (.int .i64 b) ∧ y.cell? ⟨g, 2, none⟩ = some (.int .i64 r) ∧ y.cell? ⟨g, 3, none⟩ = some (.int .i64 m))
        (first | exact KB.out | exact KP.out | go_keep)
        (first | (go_at_call 34
                  refine (CI.out _ (by first | exact Below.refl _ _ | exact (Below.refl _ _).drew | exact (Below.refl _ _).alloc (Nat.le_refl _) _ | exact ((Below.refl _ _).alloc (Nat.le_refl _) _).drew)).mono ?_
                  rintro e wB ⟨⟨h3, rfl, o3⟩, hbB⟩
                  have HbB : Hid (Below wd.heap.size wd wB) := Below.trans (by first | exact Below.refl _ _ | exact (Below.refl _ _).drew | exact (Below.refl _ _).alloc (Nat.le_refl _) _ | exact ((Below.refl _ _).alloc (Nat.le_refl _) _).drew) (hbB.mono (by first | exact Nat.le_refl _ | simp))
                  have sB : wd.heap.size ≤ wB.heap.size := HbB.out.size
                  have OB : Hid (RdL wB h3 U T) := o3.rd
                  have kb0 := far6 HbB.out x0
                  have kb1 := far6 HbB.out x1
                  have kb2 := far6 HbB.out a0
                  have kb3 := far6 HbB.out a1
                  have kb4 := far6 HbB.out a2
                  have kb5 := far6 HbB.out a3
                  have KB : Hid (wB.cell? ⟨w1.heap.size, 0, none⟩ = some (.slice h1'.a0 (vs).length h1'.c0) ∧ wB.cell? ⟨w1.heap.size, 1, none⟩ = some (.slice h1'.a1 (ws).length h1'.c1) ∧ wB.cell? ⟨g, 0, none⟩ = some (.int .i64 x) ∧ wB.cell? ⟨g, 1, none⟩ = some (.int .i64 b) ∧ wB.cell? ⟨g, 2, none⟩ = some (.int .i64 r) ∧ wB.cell? ⟨g, 3, none⟩ = some (.int .i64 m)) := ⟨kb0, kb1, kb2, kb3, kb4, kb5⟩
                  have lgB : g < wB.heap.size := Nat.lt_of_lt_of_le lg sB
                  have lxB : w1.heap.size < wB.heap.size := Nat.lt_of_lt_of_le lx sB
                  first
                    | (have ZB := zb_of hbB
                       have KP : Hid ((put2 wB wd.heap.size (.slice h3.a0 U.length h3.c0) (.slice h3.a1 T.length h3.c1)).cell? ⟨w1.heap.size, 0, none⟩ = some (.slice h1'.a0 (vs).length h1'.c0) ∧ (put2 wB wd.heap.size (.slice h3.a0 U.length h3.c0) (.slice h3.a1 T.length h3.c1)).cell? ⟨w1.heap.size, 1, none⟩ = some (.slice h1'.a1 (ws).length h1'.c1) ∧ (put2 wB wd.heap.size (.slice h3.a0 U.length h3.c0) (.slice h3.a1 T.length h3.c1)).cell? ⟨g, 0, none⟩ = some (.int .i64 x) ∧ (put2 wB wd.heap.size (.slice h3.a0 U.length h3.c0) (.slice h3.a1 T.length h3.c1)).cell? ⟨g, 1, none⟩ = some (.int .i64 b) ∧ (put2 wB wd.heap.size (.slice h3.a0 U.length h3.c0) (.slice h3.a1 T.length h3.c1)).cell? ⟨g, 2, none⟩ = some (.int .i64 r) ∧ (put2 wB wd.heap.size (.slice h3.a0 U.length h3.c0) (.slice h3.a1 T.length h3.c1)).cell? ⟨g, 3, none⟩ = some (.int .i64 m)) := ⟨(put2_cell _ _ _ _ _ _ (by omega)).trans kb0, (put2_cell _ _ _ _ _ _ (by omega)).trans kb1, (put2_cell _ _ _ _ _ _ (by omega)).trans kb2, (put2_cell _ _ _ _ _ _ (by omega)).trans kb3, (put2_cell _ _ _ _ _ _ (by omega)).trans kb4, (put2_cell _ _ _ _ _ _ (by omega)).trans kb5⟩
                       have RP : Hid (RdL (put2 wB wd.heap.size (.slice h3.a0 U.length h3.c0) (.slice h3.a1 T.length h3.c1)) h3 U T) := rp_of o3 (by simp)
                       have lB := ZB.lt
                       obtain ⟨z0, z1⟩ := box2 ZB
                       obtain ⟨t0, t1⟩ := thaw2 ZB)
                    | (have ZB := zb_ofd hbB
                       have KP : Hid ((put2 wB wd.heap.size (.slice h3.a0 U.length h3.c0) (.slice h3.a1 T.length h3.c1)).cell? ⟨w1.heap.size, 0, none⟩ = some (.slice h1'.a0 (vs).length h1'.c0) ∧ (put2 wB wd.heap.size (.slice h3.a0 U.length h3.c0) (.slice h3.a1 T.length h3.c1)).cell? ⟨w1.heap.size, 1, none⟩ = some (.slice h1'.a1 (ws).length h1'.c1) ∧ (put2 wB wd.heap.size (.slice h3.a0 U.length h3.c0) (.slice h3.a1 T.length h3.c1)).cell? ⟨g, 0, none⟩ = some (.int .i64 x) ∧ (put2 wB wd.heap.size (.slice h3.a0 U.length h3.c0) (.slice h3.a1 T.length h3.c1)).cell? ⟨g, 1, none⟩ = some (.int .i64 b) ∧ (put2 wB wd.heap.size (.slice h3.a0 U.length h3.c0) (.slice h3.a1 T.length h3.c1)).cell? ⟨g, 2, none⟩ = some (.int .i64 r) ∧ (put2 wB wd.heap.size (.slice h3.a0 U.length h3.c0) (.slice h3.a1 T.length h3.c1)).cell? ⟨g, 3, none⟩ = some (.int .i64 m)) := ⟨(put2_cell _ _ _ _ _ _ (by omega)).trans kb0, (put2_cell _ _ _ _ _ _ (by omega)).trans kb1, (put2_cell _ _ _ _ _ _ (by omega)).trans kb2, (put2_cell _ _ _ _ _ _ (by omega)).trans kb3, (put2_cell _ _ _ _ _ _ (by omega)).trans kb4, (put2_cell _ _ _ _ _ _ (by omega)).trans kb5⟩
                       have RP : Hid (RdL (put2 wB wd.heap.size (.slice h3.a0 U.length h3.c0) (.slice h3.a1 T.length h3.c1)) h3 U T) := rp_of o3 (by simp)
                       have lB := ZB.lt
                       obtain ⟨z0, z1⟩ := box2 ZB
                       obtain ⟨t0, t1⟩ := thaw2 ZB)
                    | skip
                  clear o3 hbB))
      all_goals (go_wp2_with fail; go_meet)
      all_goals first
        | exact ⟨h3, wB.heap.size, rfl, rfl, HbB.out.alloc sB _, OB.out.below ((Below.refl _ _).alloc (Nat.le_refl _) _), Box.new _ _ _⟩
        | exact ⟨h3, wB.heap.size, rfl, rfl, (HbB.out.alloc sB _).drew, OB.out.below ((Below.refl _ _).alloc (Nat.le_refl _) _).drew, Box.new _ _ _⟩
        | exact ⟨h3, wd.heap.size, rfl, rfl, put2_below HbB.out (Nat.le_refl _) _ _, RP.out, put2_box ZB _ _⟩
        | exact ⟨h3, wd.heap.size, rfl, rfl, (put2_below HbB.out (Nat.le_refl _) _ _).drew, RP.out.below (Below.refl _ _).drew, put2_box ZB _ _⟩
  case rest =>
    as_aux_lemma =>
      obtain ⟨h3, g3, rfl, rfl, B3, R3, X3⟩ := hcut
      rename World => wc
      have XC : Hid (Box wc w1.heap.size 34 #[.slice h1'.a0 (vs).length h1'.c0, .slice h1'.a1 (ws).length h1'.c1]) := XD.out.belowS B3.out
      have AC : Hid (AskR wc g x b r m) := AD.out.below B3.out
      have OC : Hid (RdL wc h1' vs ws) := OD.out.rd.below B3.out
      clear x0 x1 lg a0 a1 a2 a3 lx XD AD CI
      obtain ⟨x0, x1⟩ := box2 XC.out
      obtain ⟨lg, a0, a1, a2, a3⟩ := AC.out
      have lx : w1.heap.size < wc.heap.size := XC.out.lt
      have l3 : g3 < wc.heap.size := X3.out.lt
      go_wp2_with fail
      go_cut [9, 10] (fun s7 s8 wx => ∃ (h4 : HL) (g4 : Nat), s7 = .pointer (some ⟨g4, 0, none⟩) ∧ s8 = .int .i64 C ∧ Hid (Below wc.heap.size wc wx) ∧ Hid (RdL wx h4 U T) ∧ Hid (Box wx g4 34 #[.slice h4.a0 (U).length h4.c0, .slice h4.a1 (T).length h4.c1]))
      case first =>
        as_aux_lemma =>
          clear CO CH CW CL CM HC TD ZD HK BD OD HOK R R' HZ HZ' HT HTZ f0 f1 u0 u1 XC R3 X3
          go_region_held3 (fun y => y.cell? ⟨w1.heap.size, 0, none⟩ = some (.slice h1'.a0 (vs).length h1'.c0) ∧ y.cell? ⟨w1.heap.size, 1, none⟩ = some (.slice h1'.a1 (ws).length h1'.c1) ∧ y.cell? ⟨g, 0, none⟩ = some (.int .i64 x) ∧ y.cell? ⟨g, 1, none⟩ = some (.int .i64 b) ∧ y.cell? ⟨g, 2, none⟩ = some (.int .i64 r) ∧ y.cell? ⟨g, 3, none⟩ = some (.int .i64 m))
            (first | exact KB.out | exact KP.out | go_keep)
            (first | (go_at_call 33
                      refine (CS.out _ (B3.out.trans (Below.mono (show Below wc.heap.size wc _ from (by first | exact Below.refl _ _ | exact (Below.refl _ _).drew | exact (Below.refl _ _).alloc (Nat.le_refl _) _ | exact ((Below.refl _ _).alloc (Nat.le_refl _) _).drew)) B3.out.size))).mono ?_
                      rintro e wB ⟨⟨h4, rfl, o3⟩, hbB⟩
                      have HbB : Hid (Below wc.heap.size wc wB) := Below.trans (by first | exact Below.refl _ _ | exact (Below.refl _ _).drew | exact (Below.refl _ _).alloc (Nat.le_refl _) _ | exact ((Below.refl _ _).alloc (Nat.le_refl _) _).drew) (hbB.mono (by first | exact Nat.le_refl _ | simp))
                      have sB : wc.heap.size ≤ wB.heap.size := HbB.out.size
                      have OB : Hid (RdL wB h4 U T) := o3.rd
                      have kb0 := far6 HbB.out x0
                      have kb1 := far6 HbB.out x1
                      have kb2 := far6 HbB.out a0
                      have kb3 := far6 HbB.out a1
                      have kb4 := far6 HbB.out a2
                      have kb5 := far6 HbB.out a3
                      have KB : Hid (wB.cell? ⟨w1.heap.size, 0, none⟩ = some (.slice h1'.a0 (vs).length h1'.c0) ∧ wB.cell? ⟨w1.heap.size, 1, none⟩ = some (.slice h1'.a1 (ws).length h1'.c1) ∧ wB.cell? ⟨g, 0, none⟩ = some (.int .i64 x) ∧ wB.cell? ⟨g, 1, none⟩ = some (.int .i64 b) ∧ wB.cell? ⟨g, 2, none⟩ = some (.int .i64 r) ∧ wB.cell? ⟨g, 3, none⟩ = some (.int .i64 m)) := ⟨kb0, kb1, kb2, kb3, kb4, kb5⟩
                      have lgB : g < wB.heap.size := Nat.lt_of_lt_of_le lg sB
                      have lxB : w1.heap.size < wB.heap.size := Nat.lt_of_lt_of_le lx sB
                      first
                        | (have ZB := zb_of hbB
                           have KP : Hid ((put2 wB wc.heap.size (.slice h4.a0 U.length h4.c0) (.slice h4.a1 T.length h4.c1)).cell? ⟨w1.heap.size, 0, none⟩ = some (.slice h1'.a0 (vs).length h1'.c0) ∧ (put2 wB wc.heap.size (.slice h4.a0 U.length h4.c0) (.slice h4.a1 T.length h4.c1)).cell? ⟨w1.heap.size, 1, none⟩ = some (.slice h1'.a1 (ws).length h1'.c1) ∧ (put2 wB wc.heap.size (.slice h4.a0 U.length h4.c0) (.slice h4.a1 T.length h4.c1)).cell? ⟨g, 0, none⟩ = some (.int .i64 x) ∧ (put2 wB wc.heap.size (.slice h4.a0 U.length h4.c0) (.slice h4.a1 T.length h4.c1)).cell? ⟨g, 1, none⟩ = some (.int .i64 b) ∧ (put2 wB wc.heap.size (.slice h4.a0 U.length h4.c0) (.slice h4.a1 T.length h4.c1)).cell? ⟨g, 2, none⟩ = some (.int .i64 r) ∧ (put2 wB wc.heap.size (.slice h4.a0 U.length h4.c0) (.slice h4.a1 T.length h4.c1)).cell? ⟨g, 3, none⟩ = some (.int .i64 m)) := ⟨(put2_cell _ _ _ _ _ _ (by omega)).trans kb0, (put2_cell _ _ _ _ _ _ (by omega)).trans kb1, (put2_cell _ _ _ _ _ _ (by omega)).trans kb2, (put2_cell _ _ _ _ _ _ (by omega)).trans kb3, (put2_cell _ _ _ _ _ _ (by omega)).trans kb4, (put2_cell _ _ _ _ _ _ (by omega)).trans kb5⟩
                           have RP : Hid (RdL (put2 wB wc.heap.size (.slice h4.a0 U.length h4.c0) (.slice h4.a1 T.length h4.c1)) h4 U T) := rp_of o3 (by simp)
                           have lB := ZB.lt
                           obtain ⟨z0, z1⟩ := box2 ZB
                           obtain ⟨t0, t1⟩ := thaw2 ZB)
                        | (have ZB := zb_ofd hbB
                           have KP : Hid ((put2 wB wc.heap.size (.slice h4.a0 U.length h4.c0) (.slice h4.a1 T.length h4.c1)).cell? ⟨w1.heap.size, 0, none⟩ = some (.slice h1'.a0 (vs).length h1'.c0) ∧ (put2 wB wc.heap.size (.slice h4.a0 U.length h4.c0) (.slice h4.a1 T.length h4.c1)).cell? ⟨w1.heap.size, 1, none⟩ = some (.slice h1'.a1 (ws).length h1'.c1) ∧ (put2 wB wc.heap.size (.slice h4.a0 U.length h4.c0) (.slice h4.a1 T.length h4.c1)).cell? ⟨g, 0, none⟩ = some (.int .i64 x) ∧ (put2 wB wc.heap.size (.slice h4.a0 U.length h4.c0) (.slice h4.a1 T.length h4.c1)).cell? ⟨g, 1, none⟩ = some (.int .i64 b) ∧ (put2 wB wc.heap.size (.slice h4.a0 U.length h4.c0) (.slice h4.a1 T.length h4.c1)).cell? ⟨g, 2, none⟩ = some (.int .i64 r) ∧ (put2 wB wc.heap.size (.slice h4.a0 U.length h4.c0) (.slice h4.a1 T.length h4.c1)).cell? ⟨g, 3, none⟩ = some (.int .i64 m)) := ⟨(put2_cell _ _ _ _ _ _ (by omega)).trans kb0, (put2_cell _ _ _ _ _ _ (by omega)).trans kb1, (put2_cell _ _ _ _ _ _ (by omega)).trans kb2, (put2_cell _ _ _ _ _ _ (by omega)).trans kb3, (put2_cell _ _ _ _ _ _ (by omega)).trans kb4, (put2_cell _ _ _ _ _ _ (by omega)).trans kb5⟩
                           have RP : Hid (RdL (put2 wB wc.heap.size (.slice h4.a0 U.length h4.c0) (.slice h4.a1 T.length h4.c1)) h4 U T) := rp_of o3 (by simp)
                           have lB := ZB.lt
                           obtain ⟨z0, z1⟩ := box2 ZB
                           obtain ⟨t0, t1⟩ := thaw2 ZB)
                        | skip
                      clear o3 hbB))
          all_goals (go_wp2_with fail; go_meet)
          all_goals first
            | exact ⟨h4, wB.heap.size, rfl, rfl, HbB.out.alloc sB _, OB.out.below ((Below.refl _ _).alloc (Nat.le_refl _) _), Box.new _ _ _⟩
            | exact ⟨h4, wB.heap.size, rfl, rfl, (HbB.out.alloc sB _).drew, OB.out.below ((Below.refl _ _).alloc (Nat.le_refl _) _).drew, Box.new _ _ _⟩
            | exact ⟨h4, wc.heap.size, rfl, rfl, put2_below HbB.out (Nat.le_refl _) _ _, RP.out, put2_box ZB _ _⟩
            | exact ⟨h4, wc.heap.size, rfl, rfl, (put2_below HbB.out (Nat.le_refl _) _ _).drew, RP.out.below (Below.refl _ _).drew, put2_box ZB _ _⟩
      case rest =>
        as_aux_lemma =>
          obtain ⟨h4, g4, rfl, rfl, B4, R4, X4⟩ := hcut
          rename World => we
          have XE : Hid (Box we w1.heap.size 34 #[.slice h1'.a0 (vs).length h1'.c0, .slice h1'.a1 (ws).length h1'.c1]) := XC.out.belowS B4.out
          have AE : Hid (AskR we g x b r m) := AC.out.below B4.out
          have OE : Hid (RdL we h1' vs ws) := OC.out.below B4.out
          have X3e : Hid (Box we g3 34 #[.slice h3.a0 (U).length h3.c0, .slice h3.a1 (T).length h3.c1]) := X3.out.belowS B4.out
          have R3e : Hid (RdL we h3 U T) := R3.out.below B4.out
          have BE : Hid (Below wd.heap.size wd we) := B3.out.trans (B4.out.mono B3.out.size)
          clear x0 x1 lg a0 a1 a2 a3 lx l3 XC AC OC X3 R3 B3 B4 CS
          have hcc : (C != C) = false := by simp
          obtain ⟨x0, x1⟩ := box2 X3e.out
          obtain ⟨y0, y1⟩ := box2 X4.out
          go_wp2_with fail
          refine (c_sameL h3 h4 U T we R3e.out R4.out u0 u1).mono ?_
          rintro e wf ⟨rfl, hb⟩
          have XF : Hid (Box wf w1.heap.size 34 #[.slice h1'.a0 (vs).length h1'.c0, .slice h1'.a1 (ws).length h1'.c1]) := XE.out.belowS hb
          have AF : Hid (AskR wf g x b r m) := AE.out.below hb
          have OF : Hid (RdL wf h1' vs ws) := OE.out.below hb
          have X3f : Hid (Box wf g3 34 #[.slice h3.a0 (U).length h3.c0, .slice h3.a1 (T).length h3.c1]) := X3e.out.belowS hb
          have R3f : Hid (RdL wf h3 U T) := R3e.out.below hb
          have BF : Hid (Below wd.heap.size wd wf) := BE.out.trans (hb.mono BE.out.size)
          clear hb x0 x1 y0 y1 XE AE OE X3e R3e X4 R4 BE
          obtain ⟨x0, x1⟩ := box2 X3f.out
          go_wp2_with fail
          refine (CO.out wf h3 BF.out R3f.out).mono ?_
          rintro e wg ⟨rfl, hb⟩
          have XG : Hid (Box wg w1.heap.size 34 #[.slice h1'.a0 (vs).length h1'.c0, .slice h1'.a1 (ws).length h1'.c1]) := XF.out.belowS hb
          have AG : Hid (AskR wg g x b r m) := AF.out.below hb
          have OG : Hid (RdL wg h1' vs ws) := OF.out.below hb
          have X3g : Hid (Box wg g3 34 #[.slice h3.a0 (U).length h3.c0, .slice h3.a1 (T).length h3.c1]) := X3f.out.belowS hb
          have R3g : Hid (RdL wg h3 U T) := R3f.out.below hb
          have BG : Hid (Below wd.heap.size wd wg) := BF.out.trans (hb.mono BF.out.size)
          clear hb x0 x1 XF AF OF X3f R3f BF CO
          go_wp2
          go_loopw [11, 12] (fun s11 s12 wr => ∃ (k : Nat) (P : Bool), k ≤ vs.length ∧ s11 = .bool P ∧ s12 = .int .i64 (k : Int) ∧ Hid ((vs.take k).any (clB x b r m) = P) ∧ Hid (Below wg.heap.size wg wr)) (fun _ s _ => vs.length - (intOf s).toNat)
          case atStart => exact ⟨0, false, Nat.zero_le _, rfl, rfl, rfl, Below.refl _ _⟩
          case round =>
            as_aux_lemma =>
              obtain ⟨k, P, hk, rfl, rfl, HP, HB⟩ := hrel
              have XR := XG.out.belowS HB.out
              have AR : Hid (AskR wr g x b r m) := AG.out.below HB.out
              obtain ⟨x0, x1⟩ := box2 XR
              by_cases hlt : k < vs.length
              · obtain ⟨_, hcs⟩ := OG.out.1.below HB.out
                obtain ⟨ba, off, ha', hbl, hc⟩ := hcs (by omega)
                obtain ⟨⟨vx, vb, vr, vm⟩, hv⟩ : ∃ v, v = vs.getD k dK := ⟨_, rfl⟩
                obtain ⟨d0, d1, d2, d3⟩ := hc k hlt
                rw [← hv] at d0 d1 d2 d3
                rw [ha'] at x0
                have ck : (k : Int) < (vs.length : Int) := by omega
                have HCL : Hid ((vs.take (k + 1)).any (clB x b r m) = (P || clB x b r m ⟨vx, vb, vr, vm⟩)) := by unfold Hid; rw [cl_take vs x b r m k hlt, HP.out, ← hv]
                have hmv : (⟨vx, vb, vr, vm⟩ : LK) ∈ vs := by rw [hv]; exact getD_memK hlt
                have hbv := okK_bounds (List.all_eq_true.1 (okLs_parts HOK.out).2.2.1 _ hmv)
                have hbk := okK_bounds HK.out
                obtain ⟨wh, hwh⟩ : ∃ Q, wr.alloc (.cells #[.int .i64 vx, .int .i64 vb, .int .i64 vr, .int .i64 vm] 55) = Q := ⟨_, rfl⟩
                have bh : Below wr.heap.size wr wh := by rw [← hwh]; exact (Below.refl _ _).alloc (Nat.le_refl _) _
                have YH : Hid (Box wh wr.heap.size 55 #[.int .i64 vx, .int .i64 vb, .int .i64 vr, .int .i64 vm]) := by unfold Hid; rw [← hwh]; exact Box.new _ _ _
                have AH : Hid (AskR wh g x b r m) := AR.out.below bh
                have BH : Hid (Below wg.heap.size wg wh) := HB.out.trans (bh.mono HB.out.size)
                obtain ⟨y0, y1, y2, y3⟩ := (show wh.cell? ⟨wr.heap.size, 0, none⟩ = some (.int .i64 vx) ∧ wh.cell? ⟨wr.heap.size, 1, none⟩ = some (.int .i64 vb) ∧ wh.cell? ⟨wr.heap.size, 2, none⟩ = some (.int .i64 vr) ∧ wh.cell? ⟨wr.heap.size, 3, none⟩ = some (.int .i64 vm) from ⟨YH.out.cell 0, YH.out.cell 1, YH.out.cell 2, YH.out.cell 3⟩)
                obtain ⟨lg, a0, a1, a2, a3⟩ := AH.out
                clear hc hcs hv ha' XR AR bh hmv
                by_cases q1 : vb = b
                · have n1 : (vb != b) = false := by simp [q1]
                  by_cases q2 : vr = r
                  · have n2 : (vr != r) = false := by simp [q2]
                    by_cases q3 : vx = x
                    · have n3 : (vx == x) = true := by simp [q3]
                      have HP2 : Hid ((vs.take (k + 1)).any (clB x b r m) = P) := by unfold Hid; rw [HCL.out, cl_none b r x m _ (.inr (.inr q3)), Bool.or_false]
                      clear q1 q2 q3 hbv hbk HCL HP
                      go_wp2_with fail
                      go_quiet (fail)
                      go_wp2
                      go_roundw
                      case rel => exact ⟨k + 1, P, by omega, rfl, by go_num, HP2, below_drewN BH.out _⟩
                      case measure => simp [intOf]; omega
                    · have n3 : (vx == x) = false := by simp [q3]
                      have HP2 : Hid ((vs.take (k + 1)).any (clB x b r m) = (P || !fitB vm m)) := by unfold Hid; rw [HCL.out, cl_some b r x m ⟨vx, vb, vr, vm⟩ q1 q2 q3]
                      obtain ⟨e1, e2, e3, e4⟩ := mf_all (a := vm) (b := m) (by omega) (by omega)
                      obtain ⟨F, hF⟩ : ∃ F, fitB vm m = F := ⟨_, rfl⟩
                      rw [hF] at HP2
                      have CF1 : Hid (∀ W : World, Below wd.heap.size wd W → Calls Tryd.prog 14 #[.int .i64 vm, .int .i64 m] W fun e w' => e = .returned (.tuple #[.bool F, .int .i64 0]) ∧ Below W.heap.size W w') := fun W hW => by
                        have := c_implMF vm m W (TD.out.below hW)
                        rw [e1, e2, hF] at this
                        exact this
                      have CF2 : Hid (∀ W : World, Below wd.heap.size wd W → Calls Tryd.prog 14 #[.int .i64 m, .int .i64 vm] W fun e w' => e = .returned (.tuple #[.bool F, .int .i64 0]) ∧ Below W.heap.size W w') := fun W hW => by
                        have := c_implMF m vm W (TD.out.below hW)
                        rw [e3, e4, hF] at this
                        exact this
                      have BDH : Hid (Below wd.heap.size wd wh) := BG.out.trans (BH.out.mono BG.out.size)
                      have hff : (F != F) = false := by simp
                      clear q1 q2 q3 hbv hbk HCL HP e1 e2 e3 e4 hF
                      go_wp2_with fail
                      go_quiet (fail)
                      go_wp2_with fail
                      have ly : wr.heap.size < wh.heap.size := YH.out.lt
                      go_region_held3 (fun y => y.cell? ⟨wr.heap.size, 0, none⟩ = some (.int .i64 vx) ∧ y.cell? ⟨wr.heap.size, 3, none⟩ = some (.int .i64 vm) ∧ y.cell? ⟨g, 3, none⟩ = some (.int .i64 m))
                        (first | exact KB.out | go_keep)
                        (first | (go_at_call 14
                                  refine (CF1.out _ (by first | exact BDH.out | exact below_drewN BDH.out _ | exact BDH.out.drew)).mono ?_
                                  rintro e wi ⟨rfl, hbi⟩
                                  have HbI : Hid (Below wh.heap.size wh wi) := by first | exact hbi | exact (below_drewN (Below.refl _ _) _).trans hbi | exact (Below.refl _ _).drew.trans hbi
                                  have KB : Hid (wi.cell? ⟨wr.heap.size, 0, none⟩ = some (.int .i64 vx) ∧ wi.cell? ⟨wr.heap.size, 3, none⟩ = some (.int .i64 vm) ∧ wi.cell? ⟨g, 3, none⟩ = some (.int .i64 m)) := ⟨far6 HbI.out y0, far6 HbI.out y3, far6 HbI.out a3⟩
                                  clear hbi))
                      obtain ⟨kb0, kb1, kb2⟩ := KB.out
                      have BDI : Hid (Below wd.heap.size wd wi) := BDH.out.trans (HbI.out.mono BDH.out.size)
                      have BI : Hid (Below wg.heap.size wg wi) := BH.out.trans (HbI.out.mono BH.out.size)
                      have lgi : g < wi.heap.size := Nat.lt_of_lt_of_le lg HbI.out.size
                      have lyi : wr.heap.size < wi.heap.size := Nat.lt_of_lt_of_le ly HbI.out.size
                      clear KB HbI
                      go_wp2_with fail
                      go_region_held3 (fun y => y.cell? ⟨wr.heap.size, 0, none⟩ = some (.int .i64 vx) ∧ y.cell? ⟨wr.heap.size, 3, none⟩ = some (.int .i64 vm) ∧ y.cell? ⟨g, 3, none⟩ = some (.int .i64 m))
                        (first | exact KB.out | go_keep)
                        (first | (go_at_call 14
                                  refine (CF2.out _ (by first | exact BDI.out | exact below_drewN BDI.out _ | exact BDI.out.drew)).mono ?_
                                  rintro e wj ⟨rfl, hbj⟩
                                  have HbJ : Hid (Below wi.heap.size wi wj) := by first | exact hbj | exact (below_drewN (Below.refl _ _) _).trans hbj | exact (Below.refl _ _).drew.trans hbj
                                  have KB : Hid (wj.cell? ⟨wr.heap.size, 0, none⟩ = some (.int .i64 vx) ∧ wj.cell? ⟨wr.heap.size, 3, none⟩ = some (.int .i64 vm) ∧ wj.cell? ⟨g, 3, none⟩ = some (.int .i64 m)) := ⟨far6 HbJ.out kb0, far6 HbJ.out kb1, far6 HbJ.out kb2⟩
                                  clear hbj))
                      have BJ : Hid (Below wg.heap.size wg wj) := BI.out.trans (HbJ.out.mono BI.out.size)
                      clear KB HbJ kb0 kb1 kb2
                      cases P
                      · have HP3 : Hid ((vs.take (k + 1)).any (clB x b r m) = !F) := by unfold Hid; rw [HP2.out, Bool.false_or]
                        go_wp2
                        go_roundw
                        case rel => exact ⟨k + 1, _, by omega, rfl, by go_num, HP3, BJ⟩
                        case measure => simp [intOf]; omega
                      · have HP3 : Hid ((vs.take (k + 1)).any (clB x b r m) = true) := by unfold Hid; rw [HP2.out, Bool.true_or]
                        go_wp2
                        go_roundw
                        case rel => exact ⟨k + 1, _, by omega, rfl, by go_num, HP3, BJ⟩
                        case measure => simp [intOf]; omega
                  · have n2 : (vr != r) = true := by simpa using q2
                    have HP2 : Hid ((vs.take (k + 1)).any (clB x b r m) = P) := by unfold Hid; rw [HCL.out, cl_none b r x m _ (.inr (.inl q2)), Bool.or_false]
                    clear q1 q2 hbv hbk HCL HP
                    go_wp2_with fail
                    go_quiet (fail)
                    go_wp2
                    go_roundw
                    case rel => exact ⟨k + 1, P, by omega, rfl, by go_num, HP2, below_drewN BH.out _⟩
                    case measure => simp [intOf]; omega
                · have n1 : (vb != b) = true := by simpa using q1
                  have HP2 : Hid ((vs.take (k + 1)).any (clB x b r m) = P) := by unfold Hid; rw [HCL.out, cl_none b r x m _ (.inl q1), Bool.or_false]
                  clear q1 hbv hbk HCL HP
                  go_wp2_with fail
                  go_quiet (fail)
                  go_wp2
                  go_roundw
                  case rel => exact ⟨k + 1, P, by omega, rfl, by go_num, HP2, below_drewN BH.out _⟩
                  case measure => simp [intOf]; omega
              · have cge : ¬ (k : Int) < (vs.length : Int) := by omega
                have HPA : Hid (vs.any (clB x b r m) = P) := by
                  have e : k = vs.length := by omega
                  have := HP.out
                  rw [e, List.take_length] at this
                  exact this
                have BR : Hid (Below wd.heap.size wd wr) := BG.out.trans (HB.out.mono BG.out.size)
                have X3r : Hid (Box wr g3 34 #[.slice h3.a0 (U).length h3.c0, .slice h3.a1 (T).length h3.c1]) := X3g.out.belowS HB.out
                have R3r : Hid (RdL wr h3 U T) := R3g.out.below HB.out
                clear hlt HP XR HB
                obtain ⟨z0, z1⟩ := box2 X3r.out
                obtain ⟨lg, a0, a1, a2, a3⟩ := AR.out
                go_wp2_with fail
                have l3 : g3 < wr.heap.size := X3r.out.lt
                go_region_held3 (fun y => y.cell? ⟨g3, 0, none⟩ = some (.slice h3.a0 U.length h3.c0) ∧ y.cell? ⟨g3, 1, none⟩ = some (.slice h3.a1 T.length h3.c1) ∧ y.cell? ⟨g, 0, none⟩ = some (.int .i64 x) ∧ y.cell? ⟨g, 1, none⟩ = some (.int .i64 b) ∧ y.cell? ⟨g, 2, none⟩ = some (.int .i64 r) ∧ y.cell? ⟨g, 3, none⟩ = some (.int .i64 m))
                  (first | exact KB.out | go_keep)
                  (first | (go_at_call 21
                            refine (CH.out _ h3 (by first | exact BR.out | exact below_drewN BR.out _ | exact BR.out.drew) (by first | exact R3r.out | exact R3r.out.below (below_drewN (Below.refl _ _) _) | exact R3r.out.below (Below.refl _ _).drew)).mono ?_
                            rintro e wk ⟨rfl, hbx⟩
                            have HbX : Hid (Below wr.heap.size wr wk) := by first | exact hbx | exact (below_drewN (Below.refl _ _) _).trans hbx | exact (Below.refl _ _).drew.trans hbx
                            have KB : Hid (wk.cell? ⟨g3, 0, none⟩ = some (.slice h3.a0 U.length h3.c0) ∧ wk.cell? ⟨g3, 1, none⟩ = some (.slice h3.a1 T.length h3.c1) ∧ wk.cell? ⟨g, 0, none⟩ = some (.int .i64 x) ∧ wk.cell? ⟨g, 1, none⟩ = some (.int .i64 b) ∧ wk.cell? ⟨g, 2, none⟩ = some (.int .i64 r) ∧ wk.cell? ⟨g, 3, none⟩ = some (.int .i64 m)) := ⟨far6 HbX.out z0, far6 HbX.out z1, far6 HbX.out a0, far6 HbX.out a1, far6 HbX.out a2, far6 HbX.out a3⟩
                            clear hbx))
                have BR2 : Hid (Below wd.heap.size wd wk) := BR.out.trans (HbX.out.mono BR.out.size)
                have R3r2 : Hid (RdL wk h3 U T) := R3r.out.below HbX.out
                have X3r2 : Hid (Box wk g3 34 #[.slice h3.a0 (U).length h3.c0, .slice h3.a1 (T).length h3.c1]) := X3r.out.belowS HbX.out
                have lg2 : g < wk.heap.size := Nat.lt_of_lt_of_le lg HbX.out.size
                clear BR R3r X3r z0 z1 a0 a1 a2 a3 lg HbX
                have BR := BR2
                have R3r := R3r2
                have X3r := X3r2
                have lg := lg2
                have l3 : g3 < wk.heap.size := X3r.out.lt
                obtain ⟨z0, z1, a0, a1, a2, a3⟩ := KB.out
                clear BR2 R3r2 X3r2 lg2 KB
                clear x0 x1
                have hq0 := HQ0.out
                have hqq : (q0 != q0) = false := by simp
                go_wp2_with fail
                clear hq0 hqq
                go_region_held3 (fun y => y.cell? ⟨g3, 0, none⟩ = some (.slice h3.a0 U.length h3.c0) ∧ y.cell? ⟨g3, 1, none⟩ = some (.slice h3.a1 T.length h3.c1) ∧ y.cell? ⟨g, 0, none⟩ = some (.int .i64 x) ∧ y.cell? ⟨g, 1, none⟩ = some (.int .i64 b) ∧ y.cell? ⟨g, 2, none⟩ = some (.int .i64 r) ∧ y.cell? ⟨g, 3, none⟩ = some (.int .i64 m))
                  (first | exact KB.out | go_keep)
                  (first | (go_at_call 32
                            refine (CW.out _ h3 (by first | exact BR.out | exact below_drewN BR.out _ | exact BR.out.drew) (by first | exact R3r.out | exact R3r.out.below (below_drewN (Below.refl _ _) _) | exact R3r.out.below (Below.refl _ _).drew)).mono ?_
                            rintro e wl ⟨rfl, hbx⟩
                            have HbX : Hid (Below wk.heap.size wk wl) := by first | exact hbx | exact (below_drewN (Below.refl _ _) _).trans hbx | exact (Below.refl _ _).drew.trans hbx
                            have KB : Hid (wl.cell? ⟨g3, 0, none⟩ = some (.slice h3.a0 U.length h3.c0) ∧ wl.cell? ⟨g3, 1, none⟩ = some (.slice h3.a1 T.length h3.c1) ∧ wl.cell? ⟨g, 0, none⟩ = some (.int .i64 x) ∧ wl.cell? ⟨g, 1, none⟩ = some (.int .i64 b) ∧ wl.cell? ⟨g, 2, none⟩ = some (.int .i64 r) ∧ wl.cell? ⟨g, 3, none⟩ = some (.int .i64 m)) := ⟨far6 HbX.out z0, far6 HbX.out z1, far6 HbX.out a0, far6 HbX.out a1, far6 HbX.out a2, far6 HbX.out a3⟩
                            clear hbx))
                have BR2 : Hid (Below wd.heap.size wd wl) := BR.out.trans (HbX.out.mono BR.out.size)
                have R3r2 : Hid (RdL wl h3 U T) := R3r.out.below HbX.out
                have X3r2 : Hid (Box wl g3 34 #[.slice h3.a0 (U).length h3.c0, .slice h3.a1 (T).length h3.c1]) := X3r.out.belowS HbX.out
                have lg2 : g < wl.heap.size := Nat.lt_of_lt_of_le lg HbX.out.size
                clear BR R3r X3r z0 z1 a0 a1 a2 a3 lg HbX
                have BR := BR2
                have R3r := R3r2
                have X3r := X3r2
                have lg := lg2
                clear l3
                have l3 : g3 < wl.heap.size := X3r.out.lt
                obtain ⟨z0, z1, a0, a1, a2, a3⟩ := KB.out
                clear BR2 R3r2 X3r2 lg2 KB
                go_wp2_with fail
                go_region_held3 (fun y => y.cell? ⟨g3, 0, none⟩ = some (.slice h3.a0 U.length h3.c0) ∧ y.cell? ⟨g3, 1, none⟩ = some (.slice h3.a1 T.length h3.c1) ∧ y.cell? ⟨g, 0, none⟩ = some (.int .i64 x) ∧ y.cell? ⟨g, 1, none⟩ = some (.int .i64 b) ∧ y.cell? ⟨g, 2, none⟩ = some (.int .i64 r) ∧ y.cell? ⟨g, 3, none⟩ = some (.int .i64 m))
                  (first | exact KB.out | go_keep)
                  (first | (go_at_call 23
                            refine (CL.out _ h3 (by first | exact BR.out | exact below_drewN BR.out _ | exact BR.out.drew) (by first | exact R3r.out | exact R3r.out.below (below_drewN (Below.refl _ _) _) | exact R3r.out.below (Below.refl _ _).drew)).mono ?_
                            rintro e wm ⟨⟨la, lc, rfl⟩, hbx⟩
                            have HbX : Hid (Below wl.heap.size wl wm) := by first | exact hbx | exact (below_drewN (Below.refl _ _) _).trans hbx | exact (Below.refl _ _).drew.trans hbx
                            have KB : Hid (wm.cell? ⟨g3, 0, none⟩ = some (.slice h3.a0 U.length h3.c0) ∧ wm.cell? ⟨g3, 1, none⟩ = some (.slice h3.a1 T.length h3.c1) ∧ wm.cell? ⟨g, 0, none⟩ = some (.int .i64 x) ∧ wm.cell? ⟨g, 1, none⟩ = some (.int .i64 b) ∧ wm.cell? ⟨g, 2, none⟩ = some (.int .i64 r) ∧ wm.cell? ⟨g, 3, none⟩ = some (.int .i64 m)) := ⟨far6 HbX.out z0, far6 HbX.out z1, far6 HbX.out a0, far6 HbX.out a1, far6 HbX.out a2, far6 HbX.out a3⟩
                            clear hbx))
                have BR2 : Hid (Below wd.heap.size wd wm) := BR.out.trans (HbX.out.mono BR.out.size)
                have R3r2 : Hid (RdL wm h3 U T) := R3r.out.below HbX.out
                have X3r2 : Hid (Box wm g3 34 #[.slice h3.a0 (U).length h3.c0, .slice h3.a1 (T).length h3.c1]) := X3r.out.belowS HbX.out
                have lg2 : g < wm.heap.size := Nat.lt_of_lt_of_le lg HbX.out.size
                clear BR R3r X3r z0 z1 a0 a1 a2 a3 lg HbX
                have BR := BR2
                have R3r := R3r2
                have X3r := X3r2
                have lg := lg2
                clear l3
                have l3 : g3 < wm.heap.size := X3r.out.lt
                obtain ⟨z0, z1, a0, a1, a2, a3⟩ := KB.out
                clear BR2 R3r2 X3r2 lg2 KB
                go_wp2_with fail
                go_region_held3 (fun y => y.cell? ⟨g3, 0, none⟩ = some (.slice h3.a0 U.length h3.c0) ∧ y.cell? ⟨g3, 1, none⟩ = some (.slice h3.a1 T.length h3.c1) ∧ y.cell? ⟨g, 0, none⟩ = some (.int .i64 x) ∧ y.cell? ⟨g, 1, none⟩ = some (.int .i64 b) ∧ y.cell? ⟨g, 2, none⟩ = some (.int .i64 r) ∧ y.cell? ⟨g, 3, none⟩ = some (.int .i64 m))
                  (first | exact KB.out | go_keep)
                  (first | (go_at_call 22
                            refine (CM.out _ h3 (by first | exact BR.out | exact below_drewN BR.out _ | exact BR.out.drew) (by first | exact R3r.out | exact R3r.out.below (below_drewN (Below.refl _ _) _) | exact R3r.out.below (Below.refl _ _).drew)).mono ?_
                            rintro e wn ⟨⟨ma, mc, rfl⟩, hbx⟩
                            have HbX : Hid (Below wm.heap.size wm wn) := by first | exact hbx | exact (below_drewN (Below.refl _ _) _).trans hbx | exact (Below.refl _ _).drew.trans hbx
                            have KB : Hid (wn.cell? ⟨g3, 0, none⟩ = some (.slice h3.a0 U.length h3.c0) ∧ wn.cell? ⟨g3, 1, none⟩ = some (.slice h3.a1 T.length h3.c1) ∧ wn.cell? ⟨g, 0, none⟩ = some (.int .i64 x) ∧ wn.cell? ⟨g, 1, none⟩ = some (.int .i64 b) ∧ wn.cell? ⟨g, 2, none⟩ = some (.int .i64 r) ∧ wn.cell? ⟨g, 3, none⟩ = some (.int .i64 m)) := ⟨far6 HbX.out z0, far6 HbX.out z1, far6 HbX.out a0, far6 HbX.out a1, far6 HbX.out a2, far6 HbX.out a3⟩
                            clear hbx))
                have BR2 : Hid (Below wd.heap.size wd wn) := BR.out.trans (HbX.out.mono BR.out.size)
                have R3r2 : Hid (RdL wn h3 U T) := R3r.out.below HbX.out
                have X3r2 : Hid (Box wn g3 34 #[.slice h3.a0 (U).length h3.c0, .slice h3.a1 (T).length h3.c1]) := X3r.out.belowS HbX.out
                have lg2 : g < wn.heap.size := Nat.lt_of_lt_of_le lg HbX.out.size
                clear BR R3r X3r z0 z1 a0 a1 a2 a3 lg HbX
                have BR := BR2
                have R3r := R3r2
                have X3r := X3r2
                have lg := lg2
                clear l3
                have l3 : g3 < wn.heap.size := X3r.out.lt
                obtain ⟨z0, z1, a0, a1, a2, a3⟩ := KB.out
                clear BR2 R3r2 X3r2 lg2 KB
                have BZ : Hid (Below w.heap.size w wn) := BD.out.trans (BR.out.mono BD.out.size)
                have hee : ((ln : Int) == (ln : Int)) = true := by simp
                rcases HC.out with h0 | h7 | ⟨h0, h7, hp⟩
                · subst h0
                  go_wp2
                  go_ret
                  exact ⟨rfl, BZ.out⟩
                · subst h7
                  go_wp2
                  go_ret
                  exact ⟨rfl, BZ.out⟩
                · have n0 : (C == 0) = false := by simpa using h0
                  have n7 : (C == 7) = false := by simpa using h7
                  have hP := HPA.out
                  rw [hp] at hP
                  subst hP
                  clear h0 h7 hp
                  go_wp2
                  go_ret
                  exact ⟨rfl, BZ.out⟩



end Go.Proofs.YtmjacoocnkcilaaDoor
