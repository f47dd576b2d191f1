/-
  The walk of the law FnRecord.
-/
import Derived.Test.YtbjefhdacfijpaaDoorZd
import Derived.Test.YtbjefhdacfijpaaDoorZk
import Derived.Test.YtbjefhdacfijpaaDoorZr
import Derived.Test.YtbjefhdacfijpaaDoorRj
import Derived.Test.YtbjefhdacfijpaaDoorSb
import Derived.Test.YtbjefhdacfijpaaDoorTc
import Derived.Test.YtbjefhdacfijpaaDoorLc
namespace Go.Proofs.YtbjefhdacfijpaaDoor
open Go Go.RowKit
attribute [local go_sem ↓] Go.wp_at_zero Go.wp_at_succ


set_option maxRecDepth 100000 in
set_option maxHeartbeats 2000000 in
theorem c_source (a : Option Addr) (n c : Nat) (zs : List Int) (w : World) (hr : RdV w a n (zs.map (Value.int .u8))) (hz : ∀ z ∈ zs, 0 ≤ z ∧ z < 256) (hn : n ≤ 1048576) :
    Calls Tryd.prog 93 #[.slice a n c] w fun e w' => e = .returned (.pointer (some ⟨w.heap.size, 0, none⟩)) ∧ Drw w w' w.heap.size a n c 0 zs ∧ Below w.heap.size w w' := by
  have HR : Hid (RdV w a n (zs.map (Value.int .u8))) := hr
  have HZ : Hid (∀ z ∈ zs, 0 ≤ z ∧ z < 256) := hz
  have hm : (n : Int).tmod 1000 = (n : Int) % 1000 := Int.tmod_eq_emod_of_nonneg (by omega)
  have hw : IntKind.i64.wrap ((n : Int) % 1000) = (n : Int) % 1000 := by simp [IntKind.wrap_i64]; omega
  clear hr hz
  go_enter Tryd.func93, Tryd.ntmps93
  go_wp2
  go_ret
  have hb : Below w.heap.size w (w.alloc (.cells #[.slice a n c, .int .i64 0, .int .i64 ((n : Int) % 1000)] 181)) := (Below.refl _ _).alloc (Nat.le_refl _) _
  exact ⟨rfl, ⟨HR.out, HZ.out, by unfold maxLen; omega, Nat.le_refl _, hb, ⟨0, (n : Int) % 1000, Box.new _ _ _, by omega, by omega, by omega, by omega⟩⟩, hb⟩
set_option maxRecDepth 100000 in
set_option maxHeartbeats 4000000 in
theorem c_recOf (a : Option Addr) (n c : Nat) (zs : List Int) (lsn : Nat) (w : World) (hr : RdV w a n (zs.map (Value.int .u8))) (hz : ∀ z ∈ zs, 0 ≤ z ∧ z < 256) (hn : n ≤ 1048576) (hl : 1 ≤ lsn ∧ lsn ≤ 60) :
    Calls Tryd.prog 31 #[.slice a n c, .int .i64 (lsn : Int)] w fun e w' => (∃ D : DR, e = .returned (.agg (agR D)) ∧ okLR D = true) ∧ Below w.heap.size w w' := by
  have HZ : Hid (∀ z ∈ zs, 0 ≤ z ∧ z < 256) := hz
  obtain ⟨V, hV⟩ : ∃ V, w.alloc (.cells #[.int .i64 0, .int .i64 0, .int .i64 0, .int .i64 0, .int .i64 0, .int .i64 0, .int .i64 0, .int .i64 0, .string ⟨#[]⟩, .string ⟨#[]⟩] 28) = V := ⟨_, rfl⟩
  have hVb : Below w.heap.size w V := by rw [← hV]; exact (Below.refl _ _).alloc (Nat.le_refl _) _
  have HV : Hid (Below w.heap.size w V) := hVb
  have R0 : Hid (Box V w.heap.size 28 #[.int .i64 0, .int .i64 0, .int .i64 0, .int .i64 0, .int .i64 0, .int .i64 0, .int .i64 0, .int .i64 0, .string ⟨#[]⟩, .string ⟨#[]⟩]) := by unfold Hid; rw [← hV]; exact Box.new _ _ _
  have HR : Hid (RdV V a n (zs.map (Value.int .u8))) := hr.below hVb
  clear hr hz hVb
  go_enter Tryd.func31, Tryd.ntmps31
  go_wp2_with fail
  refine (c_source a n c zs V HR.out HZ.out hn).mono ?_
  rintro e w1 ⟨rfl, hd, hb⟩
  have B1 : Hid (Below w.heap.size w w1) := HV.out.trans (hb.mono HV.out.size)
  have R1 : Hid (Box w1 w.heap.size 28 #[.int .i64 0, .int .i64 0, .int .i64 0, .int .i64 0, .int .i64 0, .int .i64 0, .int .i64 0, .int .i64 0, .string ⟨#[]⟩, .string ⟨#[]⟩]) := R0.out.belowS hb
  have HD : Hid (Drw V w1 V.heap.size a n c 0 zs) := hd
  have lv : w.heap.size < V.heap.size := R0.out.lt
  clear hd hb
  go_wp2_with fail
  refine (c_logRec V w1 V.heap.size a n c 0 zs lsn HD.out (by omega) hl).mono ?_
  rintro e w2 ⟨⟨D, rfl, hok⟩, hi⟩
  have B2 : Hid (Below w.heap.size w w2) := B1.out.trans (hi.below (by omega) B1.out.size)
  have R2 : Hid (Box w2 w.heap.size 28 #[.int .i64 0, .int .i64 0, .int .i64 0, .int .i64 0, .int .i64 0, .int .i64 0, .int .i64 0, .int .i64 0, .string ⟨#[]⟩, .string ⟨#[]⟩]) := R1.out.innO hi (.inl lv)
  have HOK : Hid (okLR D = true) := hok
  clear hi hok
  obtain ⟨e, l, t, k, p, n, g, s, b, a⟩ := D
  unfold agR
  dsimp only
  obtain ⟨y0, y1, y2, y3, y4, y5, y6, y7, y8, y9⟩ := box10 R2.out
  obtain ⟨x0, x1, x2, x3, x4, x5, x6, x7, x8, x9⟩ := thaw10 R2.out
  go_wp2
  refine retR1 Tryd.results31 rfl rfl (put10_box (D0 := zeroR) R2.out ⟨e, l, t, k, p, n, g, s, b, a⟩) ⟨⟨⟨e, l, t, k, p, n, g, s, b, a⟩, rfl, HOK.out⟩, ?_⟩
  exact put10_below B2.out (Nat.le_refl _) ⟨e, l, t, k, p, n, g, s, b, a⟩

end Go.Proofs.YtbjefhdacfijpaaDoor
namespace Go.Proofs.YtbjefhdacfijpaaDoor
open Go Go.RowKit
attribute [local go_sem ↓] Go.wp_at_zero Go.wp_at_succ

theorem sealed_bytes {x : List Int} (hx : ∀ z ∈ x, 0 ≤ z ∧ z < 256) : ∀ z ∈ x ++ sumZ (Crc.crc x : Nat), 0 ≤ z ∧ z < 256 := fun z hz => by
  have := crc_lt x hx
  rcases List.mem_append.1 hz with h | h
  · exact hx z h
  · simp only [sumZ, List.mem_cons, List.not_mem_nil, or_false] at h
    omega
theorem rec_facts {e l t k p n g s : Int} {b a : ByteArray} (h : okLR ⟨e, l, t, k, p, n, g, s, b, a⟩ = true) :
    rbC ⟨e, l, t, k, p, n, g, s, b, a⟩ = 0 ∧ 0 < (rbR ⟨e, l, t, k, p, n, g, s, b, a⟩).length ∧ (rbR ⟨e, l, t, k, p, n, g, s, b, a⟩).length ≤ 160 ∧ (∀ z ∈ rbR ⟨e, l, t, k, p, n, g, s, b, a⟩, 0 ≤ z ∧ z < 256) ∧ rdC2 (rbR ⟨e, l, t, k, p, n, g, s, b, a⟩) = 0 ∧ rdR2 (rbR ⟨e, l, t, k, p, n, g, s, b, a⟩) = ⟨e, l, t, k, p, n, g, s, b, a⟩ ∧ ∀ i (c : Int), i < (rbR ⟨e, l, t, k, p, n, g, s, b, a⟩).length → 0 ≤ c ∧ c < 256 → c ≠ (rbR ⟨e, l, t, k, p, n, g, s, b, a⟩).getD i 0 → rdC2 ((rbR ⟨e, l, t, k, p, n, g, s, b, a⟩).set i c) = 8 ∧ rdR2 ((rbR ⟨e, l, t, k, p, n, g, s, b, a⟩).set i c) = zeroR := by
  have hl := rbR_len h
  have hf := lr_fit h
  obtain ⟨h0, hR⟩ := rb0 h
  have hq : rdC2 (rbR ⟨e, l, t, k, p, n, g, s, b, a⟩) = 0 ∧ rdR2 (rbR ⟨e, l, t, k, p, n, g, s, b, a⟩) = ⟨e, l, t, k, p, n, g, s, b, a⟩ := rq0 (by omega) (by rw [hR]; exact uns_sealed _) (by rw [hR, head_sum]; exact rr_back h)
  refine ⟨h0, by omega, by omega, ?_, hq.1, hq.2, fun i c hi hc hne => ?_⟩
  · rw [hR]; exact sealed_bytes (rb_bytes h)
  · have hb := rb_bytes h
    have hs : ((rbR ⟨e, l, t, k, p, n, g, s, b, a⟩).set i c).length = (rbR ⟨e, l, t, k, p, n, g, s, b, a⟩).length := by simp
    refine rq8 (by omega) ?_
    rw [hR] at hi hne ⊢
    exact uns_flip hb (by simp [sumZ] at hi ⊢; omega) hc hne
set_option maxRecDepth 100000 in
set_option maxHeartbeats 8000000 in
theorem law_FnRecord (a : Option Addr) (n c : Nat) (zs : List Int) (a' : Option Addr) (n' c' : Nat) (zs' : List Int) (w : World) (hr : RdV w a n (zs.map (Value.int .u8))) (hz : ∀ z ∈ zs, 0 ≤ z ∧ z < 256) (hm : n ≤ maxLen)
    (hr' : RdV w a' n' (zs'.map (Value.int .u8))) (hz' : ∀ z ∈ zs', 0 ≤ z ∧ z < 256) (hm' : n' ≤ maxLen) (ht : TabH w) :
    Calls Tryd.prog 6 #[.slice a n c, .slice a' n' c'] w fun e w' => e = .returned (.bool true) ∧ Below w.heap.size w w' := by
  unfold maxLen at hm hm'
  by_cases hbig : 1048576 < n
  · go_enter Tryd.func6, Tryd.ntmps6
    go_wp2
    go_ret
    exact ⟨rfl, Below.refl _ _⟩
  by_cases hbig' : 1048576 < n'
  · go_enter Tryd.func6, Tryd.ntmps6
    go_wp2
    go_ret
    exact ⟨rfl, Below.refl _ _⟩
  have hn : n ≤ 1048576 := by omega
  have hn' : n' ≤ 1048576 := by omega
  have hl' : zs'.length = n' := by simpa using hr'.1
  have HR : Hid (RdV w a n (zs.map (Value.int .u8))) := hr
  have HR' : Hid (RdV w a' n' (zs'.map (Value.int .u8))) := hr'
  have HZ : Hid (∀ z ∈ zs, 0 ≤ z ∧ z < 256) := hz
  have HZ' : Hid (∀ z ∈ zs', 0 ≤ z ∧ z < 256) := hz'
  have HT : Hid (TabH w) := ht
  obtain ⟨i0, hi, hz0, hz1, hz2⟩ := info_parts infoB
  obtain ⟨k0, hk0, A0⟩ := c_atU n' zs' 0 60 hl' HZ'.out hn' (by omega) (by omega)
  have A0 : Hid (∀ W : World, RdV W a' n' (zs'.map (Value.int .u8)) → Calls Tryd.prog 32 #[.slice a' n' c', .int .i64 0, .int .i64 60] W fun e w' => e = .returned (.int .i64 (k0 : Int)) ∧ ∃ q, w' = W.drewN q) := fun W hW => A0 a' c' W hW
  have e01 : ((k0 + 1 : Nat) : Int) = 1 + (k0 : Int) := by omega
  have CR : Hid (∀ W : World, RdV W a n (zs.map (Value.int .u8)) → Calls Tryd.prog 31 #[.slice a n c, .int .i64 (1 + (k0 : Int))] W fun e w' => (∃ D : DR, e = .returned (.agg (agR D)) ∧ okLR D = true) ∧ Below W.heap.size W w') := fun W hW => by rw [← e01]; exact c_recOf a n c zs (k0 + 1) W hW HZ.out hn (by omega)
  clear hr hr' hz hz' ht e01
  go_enter Tryd.func6, Tryd.ntmps6
  go_wp2_with fail
  refine (A0.out w HR'.out).mono ?_
  rintro e w1 ⟨rfl, q, hq⟩
  have B1 : Hid (Below w.heap.size w w1) := by unfold Hid; rw [hq]; exact below_drewN (Below.refl _ _) q
  clear hq q A0
  go_wp2_with fail
  refine (CR.out w1 (HR.out.below B1.out)).mono ?_
  rintro e w2 ⟨⟨⟨e, l, t, k, p, nn, g, s, b, aa⟩, rfl, hok⟩, hb⟩
  have B2 : Hid (Below w.heap.size w w2) := B1.out.trans (hb.mono B1.out.size)
  clear B1 hb CR
  obtain ⟨fC, fL0, fL, fB, fQ, fD, fF⟩ := rec_facts hok
  have hfit := lr_fit hok
  have hbs : b.size ≤ 1048576 := by omega
  have has : aa.size ≤ 1048576 := by omega
  have CB : Hid (∀ W : World, TabH W → Calls Tryd.prog 14 #[.agg #[.int .i64 e, .int .i64 l, .int .i64 t, .int .i64 k, .int .i64 p, .int .i64 nn, .int .i64 g, .int .i64 s, .string b, .string aa]] W fun e' w' => (∃ ha hc, e' = .returned (.tuple #[.slice ha (rbR ⟨e, l, t, k, p, nn, g, s, b, aa⟩).length hc, .int .i64 0]) ∧ w'.ownsRow W.heap.size 5 1 (.slice ha (rbR ⟨e, l, t, k, p, nn, g, s, b, aa⟩).length hc) (rbR ⟨e, l, t, k, p, nn, g, s, b, aa⟩).length ((rbR ⟨e, l, t, k, p, nn, g, s, b, aa⟩).map (Value.int .u8))) ∧ Below W.heap.size W w') := fun W hW => by
    have := c_implRB e l t k p nn g s b aa W hbs has hW
    rwa [fC] at this
  have CS : Hid (∀ W : World, Calls Tryd.prog 12 #[.agg #[.int .i64 e, .int .i64 l, .int .i64 t, .int .i64 k, .int .i64 p, .int .i64 nn, .int .i64 g, .int .i64 s, .string b, .string aa]] W fun e' w' => (∃ ha hc, e' = .returned (.tuple #[.slice ha (rbR ⟨e, l, t, k, p, nn, g, s, b, aa⟩).length hc, .int .i64 0]) ∧ w'.ownsRow W.heap.size 5 1 (.slice ha (rbR ⟨e, l, t, k, p, nn, g, s, b, aa⟩).length hc) (rbR ⟨e, l, t, k, p, nn, g, s, b, aa⟩).length ((rbR ⟨e, l, t, k, p, nn, g, s, b, aa⟩).map (Value.int .u8))) ∧ Below W.heap.size W w') := fun W => by
    have := c_specRB e l t k p nn g s b aa W hbs has
    rwa [fC] at this
  obtain ⟨R, hR⟩ : ∃ R, rbR ⟨e, l, t, k, p, nn, g, s, b, aa⟩ = R := ⟨_, rfl⟩
  rw [hR] at fL0 fL fB fQ fD fF CB CS
  have CRR : Hid (∀ (W : World) (ax : Option Addr) (cx : Nat), RdV W ax R.length (R.map (Value.int .u8)) → R.length ≤ cx → TabH W → Calls Tryd.prog 20 #[.slice ax R.length cx] W fun e' w' => e' = .returned (.tuple #[.agg #[.int .i64 e, .int .i64 l, .int .i64 t, .int .i64 k, .int .i64 p, .int .i64 nn, .int .i64 g, .int .i64 s, .string b, .string aa], .int .i64 0]) ∧ Below W.heap.size W w') := fun W ax cx h1 h2 h3 => by
    have := c_implRR ax R.length cx R W h1 fB (by omega) h2 h3
    rwa [fQ, fD] at this
  have CO : Hid (∀ W, Calls Tryd.prog 33 #[.agg #[.int .i64 e, .int .i64 l, .int .i64 t, .int .i64 k, .int .i64 p, .int .i64 nn, .int .i64 g, .int .i64 s, .string b, .string aa]] W fun e' w' => e' = .returned (.bool true) ∧ Below W.heap.size W w') := fun W => by
    have := c_implLR e l t k p nn g s b aa W (by unfold maxLen; omega) (by unfold maxLen; omega)
    rwa [hok] at this
  obtain ⟨L, hL⟩ : ∃ L, R.length = L := ⟨_, rfl⟩
  rw [hL] at fL0 fL fF CB CS CRR
  obtain ⟨k1, hk1, A1⟩ := c_atU n' zs' 1 L hl' HZ'.out hn' (by omega) (by omega)
  obtain ⟨k2, hk2, A2⟩ := c_atU n' zs' 2 255 hl' HZ'.out hn' (by omega) (by omega)
  have A1 : Hid (∀ W : World, RdV W a' n' (zs'.map (Value.int .u8)) → Calls Tryd.prog 32 #[.slice a' n' c', .int .i64 1, .int .i64 (L : Int)] W fun e w' => e = .returned (.int .i64 (k1 : Int)) ∧ ∃ q, w' = W.drewN q) := fun W hW => A1 a' c' W hW
  have A2 : Hid (∀ W : World, RdV W a' n' (zs'.map (Value.int .u8)) → Calls Tryd.prog 32 #[.slice a' n' c', .int .i64 2, .int .i64 255] W fun e w' => e = .returned (.int .i64 (k2 : Int)) ∧ ∃ q, w' = W.drewN q) := fun W hW => A2 a' c' W hW
  have hgk := fB _ (getD_memZ R k1 (by omega))
  obtain ⟨x, hx⟩ := Int.eq_ofNat_of_zero_le hgk.1
  have hx256 : x < 256 := by omega
  obtain ⟨d, hd, hd256, hdx⟩ := flipZ x k2 hx256 hk2
  have hF := fF k1 (d : Int) (by omega) (by omega) (by rw [hx]; exact_mod_cast hdx)
  have fB2 : ∀ z ∈ R.set k1 (d : Int), 0 ≤ z ∧ z < 256 := fun z hz => by
    rcases List.mem_or_eq_of_mem_set hz with h1 | h1
    · exact fB z h1
    · rw [h1]; omega
  have CR8 : Hid (∀ (W : World) (ax : Option Addr) (cx : Nat), RdV W ax L ((R.set k1 (d : Int)).map (Value.int .u8)) → L ≤ cx → TabH W → Calls Tryd.prog 20 #[.slice ax L cx] W fun e' w' => e' = .returned (.tuple #[.agg (agR zeroR), .int .i64 8]) ∧ Below W.heap.size W w') := fun W ax cx h1 h2 h3 => by
    have := c_implRR ax L cx (R.set k1 (d : Int)) W h1 fB2 (by omega) h2 h3
    rwa [hF.1, hF.2] at this
  have HX : Hid (R.getD k1 0 = (x : Int)) := hx
  have HFB : Hid (∀ z ∈ R, 0 ≤ z ∧ z < 256) := fB
  have HL : Hid (R.length = L) := hL
  have l160 : ((L : Int) > 160) = False := by simp; omega
  have l0 : ((L : Int) == 0) = false := by simp; omega
  clear fC fB fQ fD fF hfit hbs has hR hgk hx hdx hF fB2 hok
  obtain ⟨w3, hw3⟩ : ∃ W, w2.alloc (.cells #[.int .i64 e, .int .i64 l, .int .i64 t, .int .i64 k, .int .i64 p, .int .i64 nn, .int .i64 g, .int .i64 s, .string b, .string aa] 28) = W := ⟨_, rfl⟩
  have hb : Below w2.heap.size w2 w3 := by rw [← hw3]; exact (Below.refl _ _).alloc (Nat.le_refl _) _
  have Y3 : Hid (Box w3 w2.heap.size 28 #[.int .i64 e, .int .i64 l, .int .i64 t, .int .i64 k, .int .i64 p, .int .i64 nn, .int .i64 g, .int .i64 s, .string b, .string aa]) := by unfold Hid; rw [← hw3]; exact Box.new _ _ _
  have B3 : Hid (Below w.heap.size w w3) := B2.out.trans (hb.mono B2.out.size)
  clear B2 hb
  obtain ⟨v0, v1, v2, v3, v4, v5, v6, v7, v8, v9⟩ := box10 Y3.out
  unfold agR
  dsimp only
  go_wp2_with fail
  refine (CB.out w3 (HT.out.below B3.out)).mono ?_
  rintro e' w4 ⟨⟨ha, hc, rfl, o4⟩, hb⟩
  have B4 : Hid (Below w.heap.size w w4) := B3.out.trans (hb.mono B3.out.size)
  have Y4 : Hid (Box w4 w2.heap.size 28 #[.int .i64 e, .int .i64 l, .int .i64 t, .int .i64 k, .int .i64 p, .int .i64 nn, .int .i64 g, .int .i64 s, .string b, .string aa]) := Y3.out.belowS hb
  have O4 : Hid (w4.ownsRow w3.heap.size 5 1 (.slice ha L hc) L (R.map (Value.int .u8))) := o4
  clear B3 hb Y3 o4 CB v0 v1 v2 v3 v4 v5 v6 v7 v8 v9
  obtain ⟨v0, v1, v2, v3, v4, v5, v6, v7, v8, v9⟩ := box10 Y4.out
  go_wp2_with fail
  refine (CS.out w4).mono ?_
  rintro e' w5 ⟨⟨ha2, hc2, rfl, o5⟩, hb⟩
  have B5 : Hid (Below w.heap.size w w5) := B4.out.trans (hb.mono B4.out.size)
  have Y5 : Hid (Box w5 w2.heap.size 28 #[.int .i64 e, .int .i64 l, .int .i64 t, .int .i64 k, .int .i64 p, .int .i64 nn, .int .i64 g, .int .i64 s, .string b, .string aa]) := Y4.out.belowS hb
  have O5 : Hid (w5.ownsRow w3.heap.size 5 1 (.slice ha L hc) L (R.map (Value.int .u8))) := own_below O4.out hb
  have P5 : Hid (RdV w5 ha2 L (R.map (Value.int .u8))) := RdV.own o5
  clear B4 hb Y4 O4 o5 CS v0 v1 v2 v3 v4 v5 v6 v7 v8 v9
  go_wp2_with fail
  refine (CRR.out w5 ha hc (RdV.own O5.out) (own_capB O5.out) (HT.out.below B5.out)).mono ?_
  rintro e' w6 ⟨rfl, hb⟩
  have B6 : Hid (Below w.heap.size w w6) := B5.out.trans (hb.mono B5.out.size)
  have Y6 : Hid (Box w6 w2.heap.size 28 #[.int .i64 e, .int .i64 l, .int .i64 t, .int .i64 k, .int .i64 p, .int .i64 nn, .int .i64 g, .int .i64 s, .string b, .string aa]) := Y5.out.belowS hb
  have O6 : Hid (w6.ownsRow w3.heap.size 5 1 (.slice ha L hc) L (R.map (Value.int .u8))) := own_below O5.out hb
  have P6 : Hid (RdV w6 ha2 L (R.map (Value.int .u8))) := P5.out.below hb
  clear B5 hb Y5 O5 P5 CRR
  obtain ⟨w7, hw7⟩ : ∃ W, w6.alloc (.cells #[.int .i64 e, .int .i64 l, .int .i64 t, .int .i64 k, .int .i64 p, .int .i64 nn, .int .i64 g, .int .i64 s, .string b, .string aa] 28) = W := ⟨_, rfl⟩
  have hb : Below w6.heap.size w6 w7 := by rw [← hw7]; exact (Below.refl _ _).alloc (Nat.le_refl _) _
  have Z7 : Hid (Box w7 w6.heap.size 28 #[.int .i64 e, .int .i64 l, .int .i64 t, .int .i64 k, .int .i64 p, .int .i64 nn, .int .i64 g, .int .i64 s, .string b, .string aa]) := by unfold Hid; rw [← hw7]; exact Box.new _ _ _
  have B7 : Hid (Below w.heap.size w w7) := B6.out.trans (hb.mono B6.out.size)
  have Y7 : Hid (Box w7 w2.heap.size 28 #[.int .i64 e, .int .i64 l, .int .i64 t, .int .i64 k, .int .i64 p, .int .i64 nn, .int .i64 g, .int .i64 s, .string b, .string aa]) := Y6.out.belowS hb
  have O7 : Hid (w7.ownsRow w3.heap.size 5 1 (.slice ha L hc) L (R.map (Value.int .u8))) := own_below O6.out hb
  have P7 : Hid (RdV w7 ha2 L (R.map (Value.int .u8))) := P6.out.below hb
  clear B6 hb Y6 O6 P6
  obtain ⟨v0, v1, v2, v3, v4, v5, v6, v7, v8, v9⟩ := box10 Y7.out
  obtain ⟨u0, u1, u2, u3, u4, u5, u6, u7, u8, u9⟩ := box10 Z7.out
  have cv1 := conv8 (cap := hc) (RdV.own O7.out)
  have cv2 := conv8 (cap := hc2) P7.out
  have hss : ((strOfNums R).toList == (strOfNums R).toList) = true := by simp
  go_wp2_with fail
  refine (CO.out w7).mono ?_
  rintro e' w8 ⟨rfl, hb⟩
  have B8 : Hid (Below w.heap.size w w8) := B7.out.trans (hb.mono B7.out.size)
  have O8 : Hid (w8.ownsRow w3.heap.size 5 1 (.slice ha L hc) L (R.map (Value.int .u8))) := own_below O7.out hb
  clear B7 hb Y7 Z7 O7 P7 CO cv1 cv2 v0 v1 v2 v3 v4 v5 v6 v7 v8 v9 u0 u1 u2 u3 u4 u5 u6 u7 u8 u9
  obtain ⟨ab, aoff, hae, hac⟩ : ∃ ab aoff, ha = some ⟨ab, aoff, none⟩ ∧ (∀ j u, (R.map (Value.int .u8))[j]? = some u → (w8.alloc (.cells #[] 5)).cell? ((⟨ab, aoff, none⟩ : Addr).add j) = some u) := by
    obtain ⟨_, hcs⟩ := RdV.own O8.out
    obtain ⟨b1, o1, h1, hbw, hc1⟩ := hcs fL0
    exact ⟨b1, o1, h1, fun j u hu => by
      have hj : j < R.length := by
        rcases Nat.lt_or_ge j R.length with h | h
        · exact h
        · rw [List.getElem?_eq_none (by simpa using h)] at hu; cases hu
      rw [addr_add, Below.cell ((Below.refl w8.heap.size w8).alloc (Nat.le_refl _) _) (p := ⟨b1, o1 + j, none⟩) hbw, hc1 j (by have := HL.out; omega), ← hu]⟩
  subst hae
  have HN : Hid (∀ j u, (R.map (Value.int .u8))[j]? = some u → (w8.alloc (.cells #[] 5)).cell? ((⟨ab, aoff, none⟩ : Addr).add j) = some u) := hac
  have hown0 : (w8.alloc (.cells #[] 5)).ownsRow w8.heap.size 5 1 (.slice (some ⟨w8.heap.size, 0, none⟩) 0 0) 0 [] := World.ownsRow_lit w8 #[] 0 (Nat.le_refl _) (Nat.zero_le _) rfl
  clear hac
  go_wp2_with (at_builtin; refine wpList_append_lies _ rfl (.tmp 76) (.tmp 77) 25 rfl w8.heap.size 5 i0 (.int .u8 0) 1 1 Tryd.underlying25 hi hz0 hz1 hz2 rfl (by omega) (.slice (some ⟨w8.heap.size, 0, none⟩) 0 0) 0 [] rfl hown0 ⟨ab, aoff, none⟩ L hc (R.map (Value.int .u8)) rfl (by simpa using HL.out) HN.out (ints_oneCell _ _) fL0 (by unfold maxLen; omega) (by omega) (by simp) (w8.heap.size + 1) (by simp) ?_; intro g1 cp w9 hown hgrow hat hlt)
  simp only [Nat.zero_add, List.nil_append] at hown
  have B9 : Hid (Below w.heap.size w w9) := B8.out.trans (Below.mono (((Below.refl w8.heap.size w8).alloc (Nat.le_refl _) _).grown hgrow (by simp) (fun k h => by cases h; exact Nat.le_refl _)) B8.out.size)
  have hrc : w9.cell? ⟨g1, k1, none⟩ = some (.int .u8 (x : Int)) := by
    have := HL.out
    rw [hown.cellAt k1 (by omega), ← HX.out]; exact map_get _ _ _ _ (by omega)
  have hrf := hown.frozenAt k1
  have RD9 : Hid (RdV w9 a' n' (zs'.map (Value.int .u8))) := HR'.out.below B9.out
  have HO : Hid (w9.ownsRow w8.heap.size 5 1 (.slice (some ⟨g1, 0, none⟩) L cp) L (R.map (Value.int .u8))) := hown
  have HG : Hid (w.heap.size ≤ g1) := by
    have := B8.out.size
    rcases hat with h | h
    · cases h; exact this
    · show w.heap.size ≤ g1; omega
  clear hgrow hat hown hown0 HN hlt B8 O8
  have g1a : (0 : Int) ≤ (k1 : Int) := by omega
  have g2a : (k1 : Int) < (L : Int) := by omega
  go_wp2_with fail
  all_goals
    go_region_with
      (first | (go_at_call_of 32 (Value.int IntKind.i64 (L : Int)); refine (A1.out _ ?_).mono ?_; (exact RD9.out); rintro e wy ⟨rfl, q, rfl⟩) | (go_at_call_of 32 (Value.int IntKind.i64 (255 : Int)); refine (A2.out _ ?_).mono ?_; (exact RD9.out); rintro e wz ⟨rfl, q1, rfl⟩))
  all_goals
    have HO' : (w9.drewN (1 + q + q1)).ownsRow w8.heap.size 5 1 (.slice (some ⟨g1, 0, none⟩) L cp) L (R.map (Value.int .u8)) := HO.out
    have hst := (HO'.stored k1 (.int .u8 (d : Int))).1
    rw [← List.map_set] at hst
    have HC3 : Hid (L ≤ cp) := own_capB HO.out
    have HR3 : Hid (RdV _ (some ⟨g1, 0, none⟩) L ((R.set k1 (d : Int)).map (Value.int .u8))) := RdV.own hst
    have HB3 : Hid (Below w.heap.size w ((w9.drewN (1 + q + q1)).setCell ⟨g1, k1, none⟩ (.int .u8 (d : Int)))) := (below_drewN B9.out _).setCell HG.out _
    clear hst HO'
    go_wp2_with fail
    simp only [hd]
    refine (CR8.out _ _ _ HR3.out HC3.out (HT.out.below HB3.out)).mono ?_
    rintro e wx ⟨rfl, hb⟩
    have BX : Hid (Below w.heap.size w wx) := HB3.out.trans (hb.mono HB3.out.size)
    clear hb HB3 HR3
    unfold agR zeroR
    dsimp only
    go_wp2
    go_ret
    exact ⟨rfl, BX.out.alloc BX.out.size _⟩

end Go.Proofs.YtbjefhdacfijpaaDoor
