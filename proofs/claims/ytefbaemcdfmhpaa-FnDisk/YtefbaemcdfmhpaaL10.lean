/-
  The walk of the law of DiskCrash.
-/
import Derived.Test.YtefbaemcdfmhpaaSc
namespace Go.Proofs.Ytefbaemcdfmhpaa
open Go Go.RowKit
attribute [local go_sem ↓] Go.wp_at_zero Go.wp_at_succ

theorem Box.innO {w w' : World} {g B E : Nat} {t : TypeId} {c : Array Value} (h : Box w g t c) (hb : Inn B E w w') (hg : g < B ∨ E ≤ g) : Box w' g t c := (hb.block g h.lt hg).trans h

set_option maxHeartbeats 8000000 in
theorem law10 (h : HD) (D : DD) (ka : Option Addr) (kn kc : Nat) (K : List Int) (R : DD) (c : Int) (w : World) (r : RdD w h D) (rk : RdV w ka kn (K.map (Value.int .i64))) (mk : kn ≤ maxLen) (m0 : h.n0 ≤ maxLen) (m1 : h.n1 ≤ maxLen) (m2 : h.n2 ≤ maxLen) (s0 : ∀ s ∈ D.S, s.size ≤ maxLen) (s1 : ∀ p ∈ D.C, p.2.size ≤ maxLen)
    (fr : Fit D → kn ≤ 1048576 → Fit R)
    (cs : Fit D → kn ≤ 1048576 → ∀ (W : World) (h2 : HD) (ka2 : Option Addr) (kc2 : Nat), RdD W h2 D → HOK h2 → RdV W ka2 kn (K.map (Value.int .i64)) → (ka2 = none → kc2 = 0) → Calls Try.prog 21 #[.agg #[.slice h2.a0 h2.n0 h2.c0, .slice h2.a1 h2.n1 h2.c1, .bool h2.b, .slice h2.a2 h2.n2 h2.c2], .slice ka2 kn kc2] W fun e w' => (∃ h' : HD, e = .returned (.tuple #[.agg #[.slice h'.a0 h'.n0 h'.c0, .slice h'.a1 h'.n1 h'.c1, .bool h'.b, .slice h'.a2 h'.n2 h'.c2], .int .i64 c]) ∧ OwnD w' W.heap.size w'.heap.size h' R) ∧ Below W.heap.size W w')
    (ci : Fit D → kn ≤ 1048576 → ∀ (W : World) (h2 : HD) (ka2 : Option Addr) (kc2 : Nat), RdD W h2 D → HOK h2 → RdV W ka2 kn (K.map (Value.int .i64)) → (ka2 = none → kc2 = 0) → Calls Try.prog 19 #[.agg #[.slice h2.a0 h2.n0 h2.c0, .slice h2.a1 h2.n1 h2.c1, .bool h2.b, .slice h2.a2 h2.n2 h2.c2], .slice ka2 kn kc2] W fun e w' => (∃ h' : HD, e = .returned (.tuple #[.agg #[.slice h'.a0 h'.n0 h'.c0, .slice h'.a1 h'.n1 h'.c1, .bool h'.b, .slice h'.a2 h'.n2 h'.c2], .int .i64 c]) ∧ OwnD w' W.heap.size w'.heap.size h' R) ∧ Below W.heap.size W w') :
    Calls Try.prog 10 #[.agg #[.slice h.a0 h.n0 h.c0, .slice h.a1 h.n1 h.c1, .bool h.b, .slice h.a2 h.n2 h.c2], .slice ka kn kc] w fun e w' => e = .returned (.bool true) ∧ Below w.heap.size w w' := by
  have RR : Hid (RdD w h D) := r
  have HB : Hid (Below w.heap.size w (w.alloc (.cells #[.slice h.a0 h.n0 h.c0, .slice h.a1 h.n1 h.c1, .bool h.b, .slice h.a2 h.n2 h.c2] 50))) := (Below.refl _ _).alloc (Nat.le_refl _) _
  have BX : Hid (Box (w.alloc (.cells #[.slice h.a0 h.n0 h.c0, .slice h.a1 h.n1 h.c1, .bool h.b, .slice h.a2 h.n2 h.c2] 50)) w.heap.size 50 #[.slice h.a0 h.n0 h.c0, .slice h.a1 h.n1 h.c1, .bool h.b, .slice h.a2 h.n2 h.c2]) := Box.new _ _ _
  have C : Hid (∀ W, RdD W h D → Calls Try.prog 31 #[.agg #[.slice h.a0 h.n0 h.c0, .slice h.a1 h.n1 h.c1, .bool h.b, .slice h.a2 h.n2 h.c2], .int .i64 1048576] W fun e w' => (∃ z : Int, e = .returned (.int .i64 z) ∧ (0 ≤ z → Fit D)) ∧ Below W.heap.size W w') := fun W hW => c_szDisk h D 1048576 W hW m0 m1 m2 s0 s1 (by omega) (by omega)
  have C33 : Hid (Fit D → ∀ W, Below w.heap.size w W → Calls Try.prog 33 #[.agg #[.slice h.a0 h.n0 h.c0, .slice h.a1 h.n1 h.c1, .bool h.b, .slice h.a2 h.n2 h.c2]] W fun e w' => (∃ h' : HD, e = .returned (.agg #[.slice h'.a0 h'.n0 h'.c0, .slice h'.a1 h'.n1 h'.c1, .bool h'.b, .slice h'.a2 h'.n2 h'.c2]) ∧ OwnD w' W.heap.size w'.heap.size h' D) ∧ Below W.heap.size W w') := fun hf W hW => c_toDisk h D W (r.below hW) hf
  have FR0 : Hid (Fit D → kn ≤ 1048576 → Fit R) := fr
  have CS0 : Hid (Fit D → kn ≤ 1048576 → ∀ (W : World) (h2 : HD) (ka2 : Option Addr) (kc2 : Nat), RdD W h2 D → HOK h2 → RdV W ka2 kn (K.map (Value.int .i64)) → (ka2 = none → kc2 = 0) → Calls Try.prog 21 #[.agg #[.slice h2.a0 h2.n0 h2.c0, .slice h2.a1 h2.n1 h2.c1, .bool h2.b, .slice h2.a2 h2.n2 h2.c2], .slice ka2 kn kc2] W fun e w' => (∃ h' : HD, e = .returned (.tuple #[.agg #[.slice h'.a0 h'.n0 h'.c0, .slice h'.a1 h'.n1 h'.c1, .bool h'.b, .slice h'.a2 h'.n2 h'.c2], .int .i64 c]) ∧ OwnD w' W.heap.size w'.heap.size h' R) ∧ Below W.heap.size W w') := cs
  have CI0 : Hid (Fit D → kn ≤ 1048576 → ∀ (W : World) (h2 : HD) (ka2 : Option Addr) (kc2 : Nat), RdD W h2 D → HOK h2 → RdV W ka2 kn (K.map (Value.int .i64)) → (ka2 = none → kc2 = 0) → Calls Try.prog 19 #[.agg #[.slice h2.a0 h2.n0 h2.c0, .slice h2.a1 h2.n1 h2.c1, .bool h2.b, .slice h2.a2 h2.n2 h2.c2], .slice ka2 kn kc2] W fun e w' => (∃ h' : HD, e = .returned (.tuple #[.agg #[.slice h'.a0 h'.n0 h'.c0, .slice h'.a1 h'.n1 h'.c1, .bool h'.b, .slice h'.a2 h'.n2 h'.c2], .int .i64 c]) ∧ OwnD w' W.heap.size w'.heap.size h' R) ∧ Below W.heap.size W w') := ci
  have RK : Hid (RdV w ka kn (K.map (Value.int .i64))) := rk
  clear rk
  unfold maxLen at mk
  clear r m0 m1 m2 s0 s1 fr cs ci
  by_cases hkn : 1048576 < kn
  · go_enter Try.func10, Try.ntmps10
    go_wp2
    go_ret
    exact ⟨rfl, (Below.refl _ _).alloc (Nat.le_refl _) _⟩
  have gkn : kn ≤ 1048576 := by omega
  have CK : Hid (∀ W, Below w.heap.size w W → Calls Try.prog 36 #[.slice ka kn kc] W fun e w' => (∃ a' c', e = .returned (.slice a' kn c') ∧ w'.ownsRow W.heap.size 3 1 (.slice a' kn c') kn (K.map (Value.int .i64)) ∧ ∀ g, ob a' = some g → W.heap.size ≤ g ∧ g < w'.heap.size) ∧ Below W.heap.size W w') := fun W hW => c_toI' ka kn kc K W (RK.out.below hW) gkn
  go_enter Try.func10, Try.ntmps10
  go_wp2_with fail
  refine (C.out _ (RR.out.below HB.out)).mono ?_
  rintro e w1 ⟨⟨z, rfl, hz⟩, hb⟩
  have B1 : Hid (Below w.heap.size w w1) := HB.out.trans (hb.mono HB.out.size)
  have X1 : Hid (Box w1 w.heap.size 50 #[.slice h.a0 h.n0 h.c0, .slice h.a1 h.n1 h.c1, .bool h.b, .slice h.a2 h.n2 h.c2]) := BX.out.belowS hb
  clear hb HB BX C
  by_cases hneg : z < 0
  · clear hz
    go_wp2
    go_ret
    exact ⟨rfl, B1.out⟩
  have FD : Fit D := hz (by omega)
  have F : Hid (Fit D) := FD
  have FR : Hid (Fit R) := FR0.out FD gkn
  have CS : Hid (∀ (W : World) (h2 : HD) (ka2 : Option Addr) (kc2 : Nat), RdD W h2 D → HOK h2 → RdV W ka2 kn (K.map (Value.int .i64)) → (ka2 = none → kc2 = 0) → Calls Try.prog 21 #[.agg #[.slice h2.a0 h2.n0 h2.c0, .slice h2.a1 h2.n1 h2.c1, .bool h2.b, .slice h2.a2 h2.n2 h2.c2], .slice ka2 kn kc2] W fun e w' => (∃ h' : HD, e = .returned (.tuple #[.agg #[.slice h'.a0 h'.n0 h'.c0, .slice h'.a1 h'.n1 h'.c1, .bool h'.b, .slice h'.a2 h'.n2 h'.c2], .int .i64 c]) ∧ OwnD w' W.heap.size w'.heap.size h' R) ∧ Below W.heap.size W w') := CS0.out FD gkn
  have CI : Hid (∀ (W : World) (h2 : HD) (ka2 : Option Addr) (kc2 : Nat), RdD W h2 D → HOK h2 → RdV W ka2 kn (K.map (Value.int .i64)) → (ka2 = none → kc2 = 0) → Calls Try.prog 19 #[.agg #[.slice h2.a0 h2.n0 h2.c0, .slice h2.a1 h2.n1 h2.c1, .bool h2.b, .slice h2.a2 h2.n2 h2.c2], .slice ka2 kn kc2] W fun e w' => (∃ h' : HD, e = .returned (.tuple #[.agg #[.slice h'.a0 h'.n0 h'.c0, .slice h'.a1 h'.n1 h'.c1, .bool h'.b, .slice h'.a2 h'.n2 h'.c2], .int .i64 c]) ∧ OwnD w' W.heap.size w'.heap.size h' R) ∧ Below W.heap.size W w') := CI0.out FD gkn
  clear hz FD FR0 CS0 CI0
  have q01 : w.heap.size < w1.heap.size := X1.out.lt
  obtain ⟨v0, v1, v2, v3⟩ := box4 X1.out
  go_wp2_with fail
  refine (C33.out F.out w1 B1.out).mono ?_
  rintro e w2 ⟨⟨h2, rfl, o2⟩, hb⟩
  have T2 : Hid (RdD w2 h2 D) := o2.rd
  have TH2 : Hid (HOK h2) := o2.src
  clear o2
  have B2 : Hid (Below w.heap.size w w2) := B1.out.trans (hb.mono B1.out.size)
  have X2 : Hid (Box w2 w.heap.size 50 #[.slice h.a0 h.n0 h.c0, .slice h.a1 h.n1 h.c1, .bool h.b, .slice h.a2 h.n2 h.c2]) := X1.out.belowS hb
  have q12 : w1.heap.size ≤ w2.heap.size := hb.size
  clear B1 X1 hb v0 v1 v2 v3
  go_wp2_with fail
  refine (CK.out w2 B2.out).mono ?_
  rintro e w3 ⟨⟨ka3, kc3, rfl, o3, rg3⟩, hb⟩
  have T3 : Hid (RdD w3 h2 D) := T2.out.below hb
  have TK3 : Hid (RdV w3 ka3 kn (K.map (Value.int .i64))) := RdV.own o3
  have TS3 : Hid (ka3 = none → kc3 = 0) := own_src o3
  clear o3 rg3 T2
  have B3 : Hid (Below w.heap.size w w3) := B2.out.trans (hb.mono B2.out.size)
  have X3 : Hid (Box w3 w.heap.size 50 #[.slice h.a0 h.n0 h.c0, .slice h.a1 h.n1 h.c1, .bool h.b, .slice h.a2 h.n2 h.c2]) := X2.out.belowS hb
  have q23 : w2.heap.size ≤ w3.heap.size := hb.size
  clear B2 X2 hb 
  go_wp2_with fail
  refine (CS.out w3 h2 ka3 kc3 T3.out TH2.out TK3.out TS3.out).mono ?_
  rintro e w4 ⟨⟨hw, rfl, ow⟩, hb⟩
  have OW4 : Hid (OwnD w4 w3.heap.size w4.heap.size hw R) := ow
  clear ow T3 TH2 TK3 TS3
  have B4 : Hid (Below w.heap.size w w4) := B3.out.trans (hb.mono B3.out.size)
  have X4 : Hid (Box w4 w.heap.size 50 #[.slice h.a0 h.n0 h.c0, .slice h.a1 h.n1 h.c1, .bool h.b, .slice h.a2 h.n2 h.c2]) := X3.out.belowS hb
  have q34 : w3.heap.size ≤ w4.heap.size := hb.size
  clear B3 X3 hb 
  obtain ⟨w5, hw5⟩ : ∃ W, w4.alloc (.cells #[.slice hw.a0 hw.n0 hw.c0, .slice hw.a1 hw.n1 hw.c1, .bool hw.b, .slice hw.a2 hw.n2 hw.c2] 27) = W := ⟨_, rfl⟩
  have hb : Below w4.heap.size w4 w5 := by rw [← hw5]; exact (Below.refl _ _).alloc (Nat.le_refl _) _
  have YW5 : Hid (Box w5 w4.heap.size 27 #[.slice hw.a0 hw.n0 hw.c0, .slice hw.a1 hw.n1 hw.c1, .bool hw.b, .slice hw.a2 hw.n2 hw.c2]) := by have := Box.new w4 #[.slice hw.a0 hw.n0 hw.c0, .slice hw.a1 hw.n1 hw.c1, .bool hw.b, .slice hw.a2 hw.n2 hw.c2] 27; rwa [hw5] at this
  have B5 : Hid (Below w.heap.size w w5) := B4.out.trans (hb.mono B4.out.size)
  have X5 : Hid (Box w5 w.heap.size 50 #[.slice h.a0 h.n0 h.c0, .slice h.a1 h.n1 h.c1, .bool h.b, .slice h.a2 h.n2 h.c2]) := X4.out.belowS hb
  have OW5 : Hid (OwnD w5 w3.heap.size w4.heap.size hw R) := OW4.out.below hb
  have q45 : w4.heap.size ≤ w5.heap.size := hb.size
  clear B4 X4 OW4 hb 
  have p5 : w4.heap.size < w5.heap.size := YW5.out.lt
  obtain ⟨v0, v1, v2, v3⟩ := box4 X5.out
  go_wp2_with fail
  refine (C33.out F.out w5 B5.out).mono ?_
  rintro e w6 ⟨⟨hx, rfl, ox⟩, hb⟩
  have OX6 : Hid (OwnD w6 w5.heap.size w6.heap.size hx D) := ox
  have XH : Hid (HOK hx) := ox.src
  clear ox
  have B6 : Hid (Below w.heap.size w w6) := B5.out.trans (hb.mono B5.out.size)
  have X6 : Hid (Box w6 w.heap.size 50 #[.slice h.a0 h.n0 h.c0, .slice h.a1 h.n1 h.c1, .bool h.b, .slice h.a2 h.n2 h.c2]) := X5.out.belowS hb
  have OW6 : Hid (OwnD w6 w3.heap.size w4.heap.size hw R) := OW5.out.below hb
  have YW6 : Hid (Box w6 w4.heap.size 27 #[.slice hw.a0 hw.n0 hw.c0, .slice hw.a1 hw.n1 hw.c1, .bool hw.b, .slice hw.a2 hw.n2 hw.c2]) := YW5.out.belowS hb
  have q56 : w5.heap.size ≤ w6.heap.size := hb.size
  clear B5 X5 OW5 YW5 hb v0 v1 v2 v3
  obtain ⟨w7, hw7⟩ : ∃ W, w6.alloc (.cells #[.slice hx.a0 hx.n0 hx.c0, .slice hx.a1 hx.n1 hx.c1, .bool hx.b, .slice hx.a2 hx.n2 hx.c2] 27) = W := ⟨_, rfl⟩
  have hb : Below w6.heap.size w6 w7 := by rw [← hw7]; exact (Below.refl _ _).alloc (Nat.le_refl _) _
  have YX7 : Hid (Box w7 w6.heap.size 27 #[.slice hx.a0 hx.n0 hx.c0, .slice hx.a1 hx.n1 hx.c1, .bool hx.b, .slice hx.a2 hx.n2 hx.c2]) := by have := Box.new w6 #[.slice hx.a0 hx.n0 hx.c0, .slice hx.a1 hx.n1 hx.c1, .bool hx.b, .slice hx.a2 hx.n2 hx.c2] 27; rwa [hw7] at this
  have B7 : Hid (Below w.heap.size w w7) := B6.out.trans (hb.mono B6.out.size)
  have X7 : Hid (Box w7 w.heap.size 50 #[.slice h.a0 h.n0 h.c0, .slice h.a1 h.n1 h.c1, .bool h.b, .slice h.a2 h.n2 h.c2]) := X6.out.belowS hb
  have OW7 : Hid (OwnD w7 w3.heap.size w4.heap.size hw R) := OW6.out.below hb
  have YW7 : Hid (Box w7 w4.heap.size 27 #[.slice hw.a0 hw.n0 hw.c0, .slice hw.a1 hw.n1 hw.c1, .bool hw.b, .slice hw.a2 hw.n2 hw.c2]) := YW6.out.belowS hb
  have OX7 : Hid (OwnD w7 w5.heap.size w6.heap.size hx D) := OX6.out.below hb
  have q67 : w6.heap.size ≤ w7.heap.size := hb.size
  clear B6 X6 OW6 YW6 OX6 hb 
  have p7 : w6.heap.size < w7.heap.size := YX7.out.lt
  go_wp2_with fail
  refine (CK.out w7 B7.out).mono ?_
  rintro e w8 ⟨⟨kax, kcx, rfl, ok, rgk⟩, hb⟩
  have OK8 : Hid (w8.ownsRow w7.heap.size 3 1 (.slice kax kn kcx) kn (K.map (Value.int .i64))) := ok
  have KS : Hid (kax = none → kcx = 0) := own_src ok
  have KR : Hid (∀ g, ob kax = some g → w7.heap.size ≤ g ∧ g < w8.heap.size) := rgk
  clear ok rgk
  have B8 : Hid (Below w.heap.size w w8) := B7.out.trans (hb.mono B7.out.size)
  have X8 : Hid (Box w8 w.heap.size 50 #[.slice h.a0 h.n0 h.c0, .slice h.a1 h.n1 h.c1, .bool h.b, .slice h.a2 h.n2 h.c2]) := X7.out.belowS hb
  have OW8 : Hid (OwnD w8 w3.heap.size w4.heap.size hw R) := OW7.out.below hb
  have YW8 : Hid (Box w8 w4.heap.size 27 #[.slice hw.a0 hw.n0 hw.c0, .slice hw.a1 hw.n1 hw.c1, .bool hw.b, .slice hw.a2 hw.n2 hw.c2]) := YW7.out.belowS hb
  have OX8 : Hid (OwnD w8 w5.heap.size w6.heap.size hx D) := OX7.out.below hb
  have YX8 : Hid (Box w8 w6.heap.size 27 #[.slice hx.a0 hx.n0 hx.c0, .slice hx.a1 hx.n1 hx.c1, .bool hx.b, .slice hx.a2 hx.n2 hx.c2]) := YX7.out.belowS hb
  have q78 : w7.heap.size ≤ w8.heap.size := hb.size
  clear B7 X7 OW7 YW7 OX7 YX7 hb 
  obtain ⟨v0, v1, v2, v3⟩ := box4 YX8.out
  go_wp2_with fail
  refine (CI.out w8 hx kax kcx OX8.out.rd XH.out (RdV.own OK8.out) KS.out).mono ?_
  rintro e w9 ⟨⟨hg, rfl, og⟩, hb⟩
  have OG9 : Hid (OwnD w9 w8.heap.size w9.heap.size hg R) := og
  clear og
  have B9 : Hid (Below w.heap.size w w9) := B8.out.trans (hb.mono B8.out.size)
  have X9 : Hid (Box w9 w.heap.size 50 #[.slice h.a0 h.n0 h.c0, .slice h.a1 h.n1 h.c1, .bool h.b, .slice h.a2 h.n2 h.c2]) := X8.out.belowS hb
  have OW9 : Hid (OwnD w9 w3.heap.size w4.heap.size hw R) := OW8.out.below hb
  have YW9 : Hid (Box w9 w4.heap.size 27 #[.slice hw.a0 hw.n0 hw.c0, .slice hw.a1 hw.n1 hw.c1, .bool hw.b, .slice hw.a2 hw.n2 hw.c2]) := YW8.out.belowS hb
  have OX9 : Hid (OwnD w9 w5.heap.size w6.heap.size hx D) := OX8.out.below hb
  have YX9 : Hid (Box w9 w6.heap.size 27 #[.slice hx.a0 hx.n0 hx.c0, .slice hx.a1 hx.n1 hx.c1, .bool hx.b, .slice hx.a2 hx.n2 hx.c2]) := YX8.out.belowS hb
  have OK9 : Hid (w9.ownsRow w7.heap.size 3 1 (.slice kax kn kcx) kn (K.map (Value.int .i64))) := own_below OK8.out hb
  have q89 : w8.heap.size ≤ w9.heap.size := hb.size
  clear B8 X8 OW8 YW8 OX8 YX8 OK8 hb v0 v1 v2 v3
  obtain ⟨w10, hw10⟩ : ∃ W, w9.alloc (.cells #[.slice hg.a0 hg.n0 hg.c0, .slice hg.a1 hg.n1 hg.c1, .bool hg.b, .slice hg.a2 hg.n2 hg.c2] 27) = W := ⟨_, rfl⟩
  have hb : Below w9.heap.size w9 w10 := by rw [← hw10]; exact (Below.refl _ _).alloc (Nat.le_refl _) _
  have YG10 : Hid (Box w10 w9.heap.size 27 #[.slice hg.a0 hg.n0 hg.c0, .slice hg.a1 hg.n1 hg.c1, .bool hg.b, .slice hg.a2 hg.n2 hg.c2]) := by have := Box.new w9 #[.slice hg.a0 hg.n0 hg.c0, .slice hg.a1 hg.n1 hg.c1, .bool hg.b, .slice hg.a2 hg.n2 hg.c2] 27; rwa [hw10] at this
  have B10 : Hid (Below w.heap.size w w10) := B9.out.trans (hb.mono B9.out.size)
  have X10 : Hid (Box w10 w.heap.size 50 #[.slice h.a0 h.n0 h.c0, .slice h.a1 h.n1 h.c1, .bool h.b, .slice h.a2 h.n2 h.c2]) := X9.out.belowS hb
  have OW10 : Hid (OwnD w10 w3.heap.size w4.heap.size hw R) := OW9.out.below hb
  have YW10 : Hid (Box w10 w4.heap.size 27 #[.slice hw.a0 hw.n0 hw.c0, .slice hw.a1 hw.n1 hw.c1, .bool hw.b, .slice hw.a2 hw.n2 hw.c2]) := YW9.out.belowS hb
  have OX10 : Hid (OwnD w10 w5.heap.size w6.heap.size hx D) := OX9.out.below hb
  have YX10 : Hid (Box w10 w6.heap.size 27 #[.slice hx.a0 hx.n0 hx.c0, .slice hx.a1 hx.n1 hx.c1, .bool hx.b, .slice hx.a2 hx.n2 hx.c2]) := YX9.out.belowS hb
  have OK10 : Hid (w10.ownsRow w7.heap.size 3 1 (.slice kax kn kcx) kn (K.map (Value.int .i64))) := own_below OK9.out hb
  have OG10 : Hid (OwnD w10 w8.heap.size w9.heap.size hg R) := OG9.out.below hb
  have q910 : w9.heap.size ≤ w10.heap.size := hb.size
  clear B9 X9 OW9 YW9 OX9 YX9 OK9 OG9 hb 
  have p10 : w9.heap.size < w10.heap.size := YG10.out.lt
  have hcc : (c != c) = false := by simp
  obtain ⟨v0, v1, v2, v3⟩ := box4 YG10.out
  obtain ⟨u0, u1, u2, u3⟩ := box4 YW10.out
  go_wp2_with fail
  refine (c_eqDisk hg hw R w10 OG10.out.rd OW10.out.rd FR.out).mono ?_
  rintro e w11 ⟨rfl, hb⟩
  have B11 : Hid (Below w.heap.size w w11) := B10.out.trans (hb.mono B10.out.size)
  have X11 : Hid (Box w11 w.heap.size 50 #[.slice h.a0 h.n0 h.c0, .slice h.a1 h.n1 h.c1, .bool h.b, .slice h.a2 h.n2 h.c2]) := X10.out.belowS hb
  have OW11 : Hid (OwnD w11 w3.heap.size w4.heap.size hw R) := OW10.out.below hb
  have YW11 : Hid (Box w11 w4.heap.size 27 #[.slice hw.a0 hw.n0 hw.c0, .slice hw.a1 hw.n1 hw.c1, .bool hw.b, .slice hw.a2 hw.n2 hw.c2]) := YW10.out.belowS hb
  have OX11 : Hid (OwnD w11 w5.heap.size w6.heap.size hx D) := OX10.out.below hb
  have YX11 : Hid (Box w11 w6.heap.size 27 #[.slice hx.a0 hx.n0 hx.c0, .slice hx.a1 hx.n1 hx.c1, .bool hx.b, .slice hx.a2 hx.n2 hx.c2]) := YX10.out.belowS hb
  have OK11 : Hid (w11.ownsRow w7.heap.size 3 1 (.slice kax kn kcx) kn (K.map (Value.int .i64))) := own_below OK10.out hb
  have OG11 : Hid (OwnD w11 w8.heap.size w9.heap.size hg R) := OG10.out.below hb
  have YG11 : Hid (Box w11 w9.heap.size 27 #[.slice hg.a0 hg.n0 hg.c0, .slice hg.a1 hg.n1 hg.c1, .bool hg.b, .slice hg.a2 hg.n2 hg.c2]) := YG10.out.belowS hb
  have q1011 : w10.heap.size ≤ w11.heap.size := hb.size
  clear B10 X10 OW10 YW10 OX10 YX10 OK10 OG10 YG10 hb v0 v1 v2 v3 u0 u1 u2 u3
  obtain ⟨v0, v1, v2, v3⟩ := box4 X11.out
  obtain ⟨u0, u1, u2, u3⟩ := box4 YX11.out
  have DF : Hid (Fit D → ∀ W, Below w.heap.size w W → Calls Try.prog 33 #[.agg #[.slice h.a0 h.n0 h.c0, .slice h.a1 h.n1 h.c1, .bool h.b, .slice h.a2 h.n2 h.c2]] W fun e w' => (∃ h' : HD, e = .returned (.agg #[.slice h'.a0 h'.n0 h'.c0, .slice h'.a1 h'.n1 h'.c1, .bool h'.b, .slice h'.a2 h'.n2 h'.c2]) ∧ OwnD w' W.heap.size w'.heap.size h' D) ∧ Below W.heap.size W w') := C33.out
  go_wp2_with fail
  go_region_held3 (fun x => x.cell? ⟨w.heap.size, 0, none⟩ = some (.slice h.a0 h.n0 h.c0) ∧ x.cell? ⟨w.heap.size, 1, none⟩ = some (.slice h.a1 h.n1 h.c1) ∧ x.cell? ⟨w.heap.size, 2, none⟩ = some (.bool h.b) ∧ x.cell? ⟨w.heap.size, 3, none⟩ = some (.slice h.a2 h.n2 h.c2) ∧ x.cell? ⟨w6.heap.size, 0, none⟩ = some (.slice hx.a0 hx.n0 hx.c0) ∧ x.cell? ⟨w6.heap.size, 1, none⟩ = some (.slice hx.a1 hx.n1 hx.c1) ∧ x.cell? ⟨w6.heap.size, 2, none⟩ = some (.bool hx.b) ∧ x.cell? ⟨w6.heap.size, 3, none⟩ = some (.slice hx.a2 hx.n2 hx.c2))
    (first | exact ⟨far6 hb8 (far6 hb7 v0), far6 hb8 (far6 hb7 v1), far6 hb8 (far6 hb7 v2), far6 hb8 (far6 hb7 v3), far6 hb8 (far6 hb7 u0), far6 hb8 (far6 hb7 u1), far6 hb8 (far6 hb7 u2), far6 hb8 (far6 hb7 u3)⟩ | exact ⟨far6 hb7 v0, far6 hb7 v1, far6 hb7 v2, far6 hb7 v3, far6 hb7 u0, far6 hb7 u1, far6 hb7 u2, far6 hb7 u3⟩ | go_keep)
    (first | (go_at_call 33; refine (DF.out F.out _ (below_drewN B11.out _)).mono ?_; rintro e wa ⟨⟨h7, rfl, o7⟩, hb7⟩)
           | (go_at_call 28; refine (c_eqDisk hx h7 D _ ((OX11.out.rd.below (below_drewN (Below.refl _ _) _)).below hb7) o7.rd F.out).mono ?_; rintro e w12 ⟨rfl, hb8⟩))
  have hb : Below w11.heap.size w11 w12 := ((Below.refl w11.heap.size w11).drew.trans hb7).trans (hb8.mono hb7.size)
  clear hb7 hb8 o7 DF v0 v1 v2 v3 u0 u1 u2 u3
  have B12 : Hid (Below w.heap.size w w12) := B11.out.trans (hb.mono B11.out.size)
  have X12 : Hid (Box w12 w.heap.size 50 #[.slice h.a0 h.n0 h.c0, .slice h.a1 h.n1 h.c1, .bool h.b, .slice h.a2 h.n2 h.c2]) := X11.out.belowS hb
  have OW12 : Hid (OwnD w12 w3.heap.size w4.heap.size hw R) := OW11.out.below hb
  have YW12 : Hid (Box w12 w4.heap.size 27 #[.slice hw.a0 hw.n0 hw.c0, .slice hw.a1 hw.n1 hw.c1, .bool hw.b, .slice hw.a2 hw.n2 hw.c2]) := YW11.out.belowS hb
  have OX12 : Hid (OwnD w12 w5.heap.size w6.heap.size hx D) := OX11.out.below hb
  have YX12 : Hid (Box w12 w6.heap.size 27 #[.slice hx.a0 hx.n0 hx.c0, .slice hx.a1 hx.n1 hx.c1, .bool hx.b, .slice hx.a2 hx.n2 hx.c2]) := YX11.out.belowS hb
  have OK12 : Hid (w12.ownsRow w7.heap.size 3 1 (.slice kax kn kcx) kn (K.map (Value.int .i64))) := own_below OK11.out hb
  have OG12 : Hid (OwnD w12 w8.heap.size w9.heap.size hg R) := OG11.out.below hb
  have YG12 : Hid (Box w12 w9.heap.size 27 #[.slice hg.a0 hg.n0 hg.c0, .slice hg.a1 hg.n1 hg.c1, .bool hg.b, .slice hg.a2 hg.n2 hg.c2]) := YG11.out.belowS hb
  have q1112 : w11.heap.size ≤ w12.heap.size := hb.size
  clear B11 X11 OW11 YW11 OX11 YX11 OK11 OG11 YG11 hb 
  go_wp2_with fail
  refine (CK.out w12 B12.out).mono ?_
  rintro e w13 ⟨⟨ka9, kc9, rfl, o9, rg9⟩, hb⟩
  have T9 : Hid (RdV w13 ka9 kn (K.map (Value.int .i64))) := RdV.own o9
  clear o9 rg9
  have B13 : Hid (Below w.heap.size w w13) := B12.out.trans (hb.mono B12.out.size)
  have X13 : Hid (Box w13 w.heap.size 50 #[.slice h.a0 h.n0 h.c0, .slice h.a1 h.n1 h.c1, .bool h.b, .slice h.a2 h.n2 h.c2]) := X12.out.belowS hb
  have OW13 : Hid (OwnD w13 w3.heap.size w4.heap.size hw R) := OW12.out.below hb
  have YW13 : Hid (Box w13 w4.heap.size 27 #[.slice hw.a0 hw.n0 hw.c0, .slice hw.a1 hw.n1 hw.c1, .bool hw.b, .slice hw.a2 hw.n2 hw.c2]) := YW12.out.belowS hb
  have OX13 : Hid (OwnD w13 w5.heap.size w6.heap.size hx D) := OX12.out.below hb
  have YX13 : Hid (Box w13 w6.heap.size 27 #[.slice hx.a0 hx.n0 hx.c0, .slice hx.a1 hx.n1 hx.c1, .bool hx.b, .slice hx.a2 hx.n2 hx.c2]) := YX12.out.belowS hb
  have OK13 : Hid (w13.ownsRow w7.heap.size 3 1 (.slice kax kn kcx) kn (K.map (Value.int .i64))) := own_below OK12.out hb
  have OG13 : Hid (OwnD w13 w8.heap.size w9.heap.size hg R) := OG12.out.below hb
  have YG13 : Hid (Box w13 w9.heap.size 27 #[.slice hg.a0 hg.n0 hg.c0, .slice hg.a1 hg.n1 hg.c1, .bool hg.b, .slice hg.a2 hg.n2 hg.c2]) := YG12.out.belowS hb
  have q1213 : w12.heap.size ≤ w13.heap.size := hb.size
  clear B12 X12 OW12 YW12 OX12 YX12 OK12 OG12 YG12 hb 
  go_wp2_with fail
  refine (c_eqI kax ka9 kn kcx kn kc9 K K w13 (RdV.own OK13.out) T9.out gkn gkn).mono ?_
  rintro e w14 ⟨rfl, qq, hq⟩
  rw [decide_eq_true (rfl : K = K)]
  have hb : Below w13.heap.size w13 w14 := by rw [hq]; exact below_drewN (Below.refl _ _) qq
  clear hq T9
  have B14 : Hid (Below w.heap.size w w14) := B13.out.trans (hb.mono B13.out.size)
  have X14 : Hid (Box w14 w.heap.size 50 #[.slice h.a0 h.n0 h.c0, .slice h.a1 h.n1 h.c1, .bool h.b, .slice h.a2 h.n2 h.c2]) := X13.out.belowS hb
  have OW14 : Hid (OwnD w14 w3.heap.size w4.heap.size hw R) := OW13.out.below hb
  have YW14 : Hid (Box w14 w4.heap.size 27 #[.slice hw.a0 hw.n0 hw.c0, .slice hw.a1 hw.n1 hw.c1, .bool hw.b, .slice hw.a2 hw.n2 hw.c2]) := YW13.out.belowS hb
  have OX14 : Hid (OwnD w14 w5.heap.size w6.heap.size hx D) := OX13.out.below hb
  have YX14 : Hid (Box w14 w6.heap.size 27 #[.slice hx.a0 hx.n0 hx.c0, .slice hx.a1 hx.n1 hx.c1, .bool hx.b, .slice hx.a2 hx.n2 hx.c2]) := YX13.out.belowS hb
  have OK14 : Hid (w14.ownsRow w7.heap.size 3 1 (.slice kax kn kcx) kn (K.map (Value.int .i64))) := own_below OK13.out hb
  have OG14 : Hid (OwnD w14 w8.heap.size w9.heap.size hg R) := OG13.out.below hb
  have YG14 : Hid (Box w14 w9.heap.size 27 #[.slice hg.a0 hg.n0 hg.c0, .slice hg.a1 hg.n1 hg.c1, .bool hg.b, .slice hg.a2 hg.n2 hg.c2]) := YG13.out.belowS hb
  have q1314 : w13.heap.size ≤ w14.heap.size := hb.size
  clear B13 X13 OW13 YW13 OX13 YX13 OK13 OG13 YG13 hb 
  have nx0 := OX14.out.rd.l0
  have nx1 := OX14.out.rd.l1
  have nx2 := OX14.out.rd.l2
  have ng0 := OG14.out.rd.l0
  have ng1 := OG14.out.rd.l1
  have ng2 := OG14.out.rd.l2
  have fd0 := F.out.1
  have fd1 := F.out.2.1
  have fd2 := F.out.2.2.1
  have fr0 := FR.out.1
  have fr1 := FR.out.2.1
  have fr2 := FR.out.2.2.1
  obtain ⟨v0, v1, v2, v3⟩ := box4 YX14.out
  go_wp2_with fail
  refine (c_markDisk hx D w5.heap.size w6.heap.size w14 OX14.out (by omega) (by omega) (by omega)).mono ?_
  rintro e w15 ⟨rfl, om, hi⟩
  clear om v0 v1 v2 v3
  have B15 : Hid (Below w.heap.size w w15) := B14.out.trans (hi.below (by omega) (by omega))
  have X15 : Hid (Box w15 w.heap.size 50 #[.slice h.a0 h.n0 h.c0, .slice h.a1 h.n1 h.c1, .bool h.b, .slice h.a2 h.n2 h.c2]) := X14.out.innO hi (by omega)
  have OW15 : Hid (OwnD w15 w3.heap.size w4.heap.size hw R) := OW14.out.inn hi (by omega)
  have YW15 : Hid (Box w15 w4.heap.size 27 #[.slice hw.a0 hw.n0 hw.c0, .slice hw.a1 hw.n1 hw.c1, .bool hw.b, .slice hw.a2 hw.n2 hw.c2]) := YW14.out.innO hi (by omega)
  have YX15 : Hid (Box w15 w6.heap.size 27 #[.slice hx.a0 hx.n0 hx.c0, .slice hx.a1 hx.n1 hx.c1, .bool hx.b, .slice hx.a2 hx.n2 hx.c2]) := YX14.out.innO hi (by omega)
  have OK15 : Hid (w15.ownsRow w7.heap.size 3 1 (.slice kax kn kcx) kn (K.map (Value.int .i64))) := own_same OK14.out fun g e => hi.block g (OK14.out.lt g e).2 (by rw [ob_slice] at e; have := KR.out g e; omega)
  have OG15 : Hid (OwnD w15 w8.heap.size w9.heap.size hg R) := OG14.out.inn hi (by omega)
  have YG15 : Hid (Box w15 w9.heap.size 27 #[.slice hg.a0 hg.n0 hg.c0, .slice hg.a1 hg.n1 hg.c1, .bool hg.b, .slice hg.a2 hg.n2 hg.c2]) := YG14.out.innO hi (by omega)
  have q1415 : w14.heap.size ≤ w15.heap.size := hi.size
  clear hi B14 X14 OW14 YW14 OX14 YX14 OK14 OG14 YG14
  have hmk : markN hx ≤ 4194305 := by unfold markN; omega
  go_wp2_with fail
  refine (c_markI w7.heap.size (.slice kax kn kcx) kn (markN hx) _ w15 OK15.out (by omega) (by omega)).mono ?_
  rintro e w16 ⟨rfl, om, hgr⟩
  have hi : Inn w7.heap.size w8.heap.size w15 w16 := Inn.of_grown hgr (fun g e => by rw [ob_slice] at e; exact KR.out g e)
  clear om hgr
  have B16 : Hid (Below w.heap.size w w16) := B15.out.trans (hi.below (by omega) (by omega))
  have X16 : Hid (Box w16 w.heap.size 50 #[.slice h.a0 h.n0 h.c0, .slice h.a1 h.n1 h.c1, .bool h.b, .slice h.a2 h.n2 h.c2]) := X15.out.innO hi (by omega)
  have OW16 : Hid (OwnD w16 w3.heap.size w4.heap.size hw R) := OW15.out.inn hi (by omega)
  have YW16 : Hid (Box w16 w4.heap.size 27 #[.slice hw.a0 hw.n0 hw.c0, .slice hw.a1 hw.n1 hw.c1, .bool hw.b, .slice hw.a2 hw.n2 hw.c2]) := YW15.out.innO hi (by omega)
  have YX16 : Hid (Box w16 w6.heap.size 27 #[.slice hx.a0 hx.n0 hx.c0, .slice hx.a1 hx.n1 hx.c1, .bool hx.b, .slice hx.a2 hx.n2 hx.c2]) := YX15.out.innO hi (by omega)
  have OG16 : Hid (OwnD w16 w8.heap.size w9.heap.size hg R) := OG15.out.inn hi (by omega)
  have YG16 : Hid (Box w16 w9.heap.size 27 #[.slice hg.a0 hg.n0 hg.c0, .slice hg.a1 hg.n1 hg.c1, .bool hg.b, .slice hg.a2 hg.n2 hg.c2]) := YG15.out.innO hi (by omega)
  have q1516 : w15.heap.size ≤ w16.heap.size := hi.size
  clear hi B15 X15 OW15 YW15 YX15 OK15 OG15 YG15
  obtain ⟨v0, v1, v2, v3⟩ := box4 YG16.out
  obtain ⟨u0, u1, u2, u3⟩ := box4 YW16.out
  go_wp2_with fail
  refine (c_eqDisk hg hw R w16 OG16.out.rd OW16.out.rd FR.out).mono ?_
  rintro e w17 ⟨rfl, hb⟩
  have B17 : Hid (Below w.heap.size w w17) := B16.out.trans (hb.mono B16.out.size)
  have X17 : Hid (Box w17 w.heap.size 50 #[.slice h.a0 h.n0 h.c0, .slice h.a1 h.n1 h.c1, .bool h.b, .slice h.a2 h.n2 h.c2]) := X16.out.belowS hb
  have OW17 : Hid (OwnD w17 w3.heap.size w4.heap.size hw R) := OW16.out.below hb
  have YW17 : Hid (Box w17 w4.heap.size 27 #[.slice hw.a0 hw.n0 hw.c0, .slice hw.a1 hw.n1 hw.c1, .bool hw.b, .slice hw.a2 hw.n2 hw.c2]) := YW16.out.belowS hb
  have YX17 : Hid (Box w17 w6.heap.size 27 #[.slice hx.a0 hx.n0 hx.c0, .slice hx.a1 hx.n1 hx.c1, .bool hx.b, .slice hx.a2 hx.n2 hx.c2]) := YX16.out.belowS hb
  have OG17 : Hid (OwnD w17 w8.heap.size w9.heap.size hg R) := OG16.out.below hb
  have YG17 : Hid (Box w17 w9.heap.size 27 #[.slice hg.a0 hg.n0 hg.c0, .slice hg.a1 hg.n1 hg.c1, .bool hg.b, .slice hg.a2 hg.n2 hg.c2]) := YG16.out.belowS hb
  have q1617 : w16.heap.size ≤ w17.heap.size := hb.size
  clear B16 X16 OW16 YW16 YX16 OG16 YG16 hb v0 v1 v2 v3 u0 u1 u2 u3
  obtain ⟨v0, v1, v2, v3⟩ := box4 YG17.out
  go_wp2_with fail
  refine (c_markDisk hg R w8.heap.size w9.heap.size w17 OG17.out (by omega) (by omega) (by omega)).mono ?_
  rintro e w18 ⟨rfl, om, hi⟩
  have OM18 : Hid (OwnD w18 w8.heap.size w9.heap.size hg (markD hg)) := om
  clear om v0 v1 v2 v3
  have B18 : Hid (Below w.heap.size w w18) := B17.out.trans (hi.below (by omega) (by omega))
  have X18 : Hid (Box w18 w.heap.size 50 #[.slice h.a0 h.n0 h.c0, .slice h.a1 h.n1 h.c1, .bool h.b, .slice h.a2 h.n2 h.c2]) := X17.out.innO hi (by omega)
  have OW18 : Hid (OwnD w18 w3.heap.size w4.heap.size hw R) := OW17.out.inn hi (by omega)
  have YW18 : Hid (Box w18 w4.heap.size 27 #[.slice hw.a0 hw.n0 hw.c0, .slice hw.a1 hw.n1 hw.c1, .bool hw.b, .slice hw.a2 hw.n2 hw.c2]) := YW17.out.innO hi (by omega)
  have YX18 : Hid (Box w18 w6.heap.size 27 #[.slice hx.a0 hx.n0 hx.c0, .slice hx.a1 hx.n1 hx.c1, .bool hx.b, .slice hx.a2 hx.n2 hx.c2]) := YX17.out.innO hi (by omega)
  have YG18 : Hid (Box w18 w9.heap.size 27 #[.slice hg.a0 hg.n0 hg.c0, .slice hg.a1 hg.n1 hg.c1, .bool hg.b, .slice hg.a2 hg.n2 hg.c2]) := YG17.out.innO hi (by omega)
  have q1718 : w17.heap.size ≤ w18.heap.size := hi.size
  clear hi B17 X17 OW17 YW17 YX17 OG17 YG17
  have hmg : markN hg ≤ 4194305 := by unfold markN; omega
  have hmm : ((markN hg : Int) != (markN hg : Int)) = false := by simp
  obtain ⟨v0, v1, v2, v3⟩ := box4 YG18.out
  go_wp2_with fail
  refine (c_heldDisk hg w18 OM18.out.rd (by omega) (by omega) (by omega)).mono ?_
  rintro e w19 ⟨rfl, hb⟩
  have B19 : Hid (Below w.heap.size w w19) := B18.out.trans (hb.mono B18.out.size)
  have X19 : Hid (Box w19 w.heap.size 50 #[.slice h.a0 h.n0 h.c0, .slice h.a1 h.n1 h.c1, .bool h.b, .slice h.a2 h.n2 h.c2]) := X18.out.belowS hb
  have OW19 : Hid (OwnD w19 w3.heap.size w4.heap.size hw R) := OW18.out.below hb
  have YW19 : Hid (Box w19 w4.heap.size 27 #[.slice hw.a0 hw.n0 hw.c0, .slice hw.a1 hw.n1 hw.c1, .bool hw.b, .slice hw.a2 hw.n2 hw.c2]) := YW18.out.belowS hb
  have YX19 : Hid (Box w19 w6.heap.size 27 #[.slice hx.a0 hx.n0 hx.c0, .slice hx.a1 hx.n1 hx.c1, .bool hx.b, .slice hx.a2 hx.n2 hx.c2]) := YX18.out.belowS hb
  have YG19 : Hid (Box w19 w9.heap.size 27 #[.slice hg.a0 hg.n0 hg.c0, .slice hg.a1 hg.n1 hg.c1, .bool hg.b, .slice hg.a2 hg.n2 hg.c2]) := YG18.out.belowS hb
  have OM19 : Hid (OwnD w19 w8.heap.size w9.heap.size hg (markD hg)) := OM18.out.below hb
  have q1819 : w18.heap.size ≤ w19.heap.size := hb.size
  clear B18 X18 OW18 YW18 YX18 YG18 OM18 hb v0 v1 v2 v3
  obtain ⟨v0, v1, v2, v3⟩ := box4 X19.out
  go_wp2_with fail
  refine (C33.out F.out w19 B19.out).mono ?_
  rintro e w20 ⟨⟨hy, rfl, oy⟩, hb⟩
  have TY20 : Hid (RdD w20 hy D) := oy.rd
  have TYH : Hid (HOK hy) := oy.src
  clear oy
  have B20 : Hid (Below w.heap.size w w20) := B19.out.trans (hb.mono B19.out.size)
  have X20 : Hid (Box w20 w.heap.size 50 #[.slice h.a0 h.n0 h.c0, .slice h.a1 h.n1 h.c1, .bool h.b, .slice h.a2 h.n2 h.c2]) := X19.out.belowS hb
  have OW20 : Hid (OwnD w20 w3.heap.size w4.heap.size hw R) := OW19.out.below hb
  have YW20 : Hid (Box w20 w4.heap.size 27 #[.slice hw.a0 hw.n0 hw.c0, .slice hw.a1 hw.n1 hw.c1, .bool hw.b, .slice hw.a2 hw.n2 hw.c2]) := YW19.out.belowS hb
  have YX20 : Hid (Box w20 w6.heap.size 27 #[.slice hx.a0 hx.n0 hx.c0, .slice hx.a1 hx.n1 hx.c1, .bool hx.b, .slice hx.a2 hx.n2 hx.c2]) := YX19.out.belowS hb
  have YG20 : Hid (Box w20 w9.heap.size 27 #[.slice hg.a0 hg.n0 hg.c0, .slice hg.a1 hg.n1 hg.c1, .bool hg.b, .slice hg.a2 hg.n2 hg.c2]) := YG19.out.belowS hb
  have OM20 : Hid (OwnD w20 w8.heap.size w9.heap.size hg (markD hg)) := OM19.out.below hb
  have q1920 : w19.heap.size ≤ w20.heap.size := hb.size
  clear B19 X19 OW19 YW19 YX19 YG19 OM19 hb v0 v1 v2 v3
  go_wp2_with fail
  refine (CK.out w20 B20.out).mono ?_
  rintro e w21 ⟨⟨kay, kcy, rfl, oky, rgy⟩, hb⟩
  have TY21 : Hid (RdD w21 hy D) := TY20.out.below hb
  have TKY : Hid (RdV w21 kay kn (K.map (Value.int .i64))) := RdV.own oky
  have TSY : Hid (kay = none → kcy = 0) := own_src oky
  clear oky rgy TY20
  have B21 : Hid (Below w.heap.size w w21) := B20.out.trans (hb.mono B20.out.size)
  have X21 : Hid (Box w21 w.heap.size 50 #[.slice h.a0 h.n0 h.c0, .slice h.a1 h.n1 h.c1, .bool h.b, .slice h.a2 h.n2 h.c2]) := X20.out.belowS hb
  have OW21 : Hid (OwnD w21 w3.heap.size w4.heap.size hw R) := OW20.out.below hb
  have YW21 : Hid (Box w21 w4.heap.size 27 #[.slice hw.a0 hw.n0 hw.c0, .slice hw.a1 hw.n1 hw.c1, .bool hw.b, .slice hw.a2 hw.n2 hw.c2]) := YW20.out.belowS hb
  have YX21 : Hid (Box w21 w6.heap.size 27 #[.slice hx.a0 hx.n0 hx.c0, .slice hx.a1 hx.n1 hx.c1, .bool hx.b, .slice hx.a2 hx.n2 hx.c2]) := YX20.out.belowS hb
  have YG21 : Hid (Box w21 w9.heap.size 27 #[.slice hg.a0 hg.n0 hg.c0, .slice hg.a1 hg.n1 hg.c1, .bool hg.b, .slice hg.a2 hg.n2 hg.c2]) := YG20.out.belowS hb
  have OM21 : Hid (OwnD w21 w8.heap.size w9.heap.size hg (markD hg)) := OM20.out.below hb
  have q2021 : w20.heap.size ≤ w21.heap.size := hb.size
  clear B20 X20 OW20 YW20 YX20 YG20 OM20 hb 
  go_wp2_with fail
  refine (CI.out w21 hy kay kcy TY21.out TYH.out TKY.out TSY.out).mono ?_
  rintro e w22 ⟨⟨hz, rfl, oz⟩, hb⟩
  have TZ22 : Hid (RdD w22 hz R) := oz.rd
  clear oz TY21
  have B22 : Hid (Below w.heap.size w w22) := B21.out.trans (hb.mono B21.out.size)
  have X22 : Hid (Box w22 w.heap.size 50 #[.slice h.a0 h.n0 h.c0, .slice h.a1 h.n1 h.c1, .bool h.b, .slice h.a2 h.n2 h.c2]) := X21.out.belowS hb
  have OW22 : Hid (OwnD w22 w3.heap.size w4.heap.size hw R) := OW21.out.below hb
  have YW22 : Hid (Box w22 w4.heap.size 27 #[.slice hw.a0 hw.n0 hw.c0, .slice hw.a1 hw.n1 hw.c1, .bool hw.b, .slice hw.a2 hw.n2 hw.c2]) := YW21.out.belowS hb
  have YX22 : Hid (Box w22 w6.heap.size 27 #[.slice hx.a0 hx.n0 hx.c0, .slice hx.a1 hx.n1 hx.c1, .bool hx.b, .slice hx.a2 hx.n2 hx.c2]) := YX21.out.belowS hb
  have YG22 : Hid (Box w22 w9.heap.size 27 #[.slice hg.a0 hg.n0 hg.c0, .slice hg.a1 hg.n1 hg.c1, .bool hg.b, .slice hg.a2 hg.n2 hg.c2]) := YG21.out.belowS hb
  have OM22 : Hid (OwnD w22 w8.heap.size w9.heap.size hg (markD hg)) := OM21.out.below hb
  have q2122 : w21.heap.size ≤ w22.heap.size := hb.size
  clear B21 X21 OW21 YW21 YX21 YG21 OM21 hb 
  have TZ23 : Hid (∀ W, Below w22.heap.size w22 W → RdD W hz R) := fun W hW => TZ22.out.below hW
  obtain ⟨w23, hw23⟩ : ∃ W, w22.alloc (.cells #[.slice hz.a0 hz.n0 hz.c0, .slice hz.a1 hz.n1 hz.c1, .bool hz.b, .slice hz.a2 hz.n2 hz.c2] 27) = W := ⟨_, rfl⟩
  have hb : Below w22.heap.size w22 w23 := by rw [← hw23]; exact (Below.refl _ _).alloc (Nat.le_refl _) _
  have YZ23 : Hid (Box w23 w22.heap.size 27 #[.slice hz.a0 hz.n0 hz.c0, .slice hz.a1 hz.n1 hz.c1, .bool hz.b, .slice hz.a2 hz.n2 hz.c2]) := by have := Box.new w22 #[.slice hz.a0 hz.n0 hz.c0, .slice hz.a1 hz.n1 hz.c1, .bool hz.b, .slice hz.a2 hz.n2 hz.c2] 27; rwa [hw23] at this
  have B23 : Hid (Below w.heap.size w w23) := B22.out.trans (hb.mono B22.out.size)
  have X23 : Hid (Box w23 w.heap.size 50 #[.slice h.a0 h.n0 h.c0, .slice h.a1 h.n1 h.c1, .bool h.b, .slice h.a2 h.n2 h.c2]) := X22.out.belowS hb
  have OW23 : Hid (OwnD w23 w3.heap.size w4.heap.size hw R) := OW22.out.below hb
  have YW23 : Hid (Box w23 w4.heap.size 27 #[.slice hw.a0 hw.n0 hw.c0, .slice hw.a1 hw.n1 hw.c1, .bool hw.b, .slice hw.a2 hw.n2 hw.c2]) := YW22.out.belowS hb
  have YX23 : Hid (Box w23 w6.heap.size 27 #[.slice hx.a0 hx.n0 hx.c0, .slice hx.a1 hx.n1 hx.c1, .bool hx.b, .slice hx.a2 hx.n2 hx.c2]) := YX22.out.belowS hb
  have YG23 : Hid (Box w23 w9.heap.size 27 #[.slice hg.a0 hg.n0 hg.c0, .slice hg.a1 hg.n1 hg.c1, .bool hg.b, .slice hg.a2 hg.n2 hg.c2]) := YG22.out.belowS hb
  have OM23 : Hid (OwnD w23 w8.heap.size w9.heap.size hg (markD hg)) := OM22.out.below hb
  have q2223 : w22.heap.size ≤ w23.heap.size := hb.size
  clear B22 X22 OW22 YW22 YX22 YG22 OM22 hb 
  have p23 : w22.heap.size < w23.heap.size := YZ23.out.lt
  have TZZ : Hid (RdD w23 hz R) := TZ23.out _ (by rw [← hw23]; exact (Below.refl _ _).alloc (Nat.le_refl _) _)
  obtain ⟨v0, v1, v2, v3⟩ := box4 YZ23.out
  obtain ⟨u0, u1, u2, u3⟩ := box4 YW23.out
  go_wp2_with fail
  refine (c_eqDisk hz hw R w23 TZZ.out OW23.out.rd FR.out).mono ?_
  rintro e w24 ⟨rfl, hb⟩
  have B24 : Hid (Below w.heap.size w w24) := B23.out.trans (hb.mono B23.out.size)
  have X24 : Hid (Box w24 w.heap.size 50 #[.slice h.a0 h.n0 h.c0, .slice h.a1 h.n1 h.c1, .bool h.b, .slice h.a2 h.n2 h.c2]) := X23.out.belowS hb
  have OW24 : Hid (OwnD w24 w3.heap.size w4.heap.size hw R) := OW23.out.below hb
  have YW24 : Hid (Box w24 w4.heap.size 27 #[.slice hw.a0 hw.n0 hw.c0, .slice hw.a1 hw.n1 hw.c1, .bool hw.b, .slice hw.a2 hw.n2 hw.c2]) := YW23.out.belowS hb
  have YX24 : Hid (Box w24 w6.heap.size 27 #[.slice hx.a0 hx.n0 hx.c0, .slice hx.a1 hx.n1 hx.c1, .bool hx.b, .slice hx.a2 hx.n2 hx.c2]) := YX23.out.belowS hb
  have YG24 : Hid (Box w24 w9.heap.size 27 #[.slice hg.a0 hg.n0 hg.c0, .slice hg.a1 hg.n1 hg.c1, .bool hg.b, .slice hg.a2 hg.n2 hg.c2]) := YG23.out.belowS hb
  have OM24 : Hid (OwnD w24 w8.heap.size w9.heap.size hg (markD hg)) := OM23.out.below hb
  have YZ24 : Hid (Box w24 w22.heap.size 27 #[.slice hz.a0 hz.n0 hz.c0, .slice hz.a1 hz.n1 hz.c1, .bool hz.b, .slice hz.a2 hz.n2 hz.c2]) := YZ23.out.belowS hb
  have q2324 : w23.heap.size ≤ w24.heap.size := hb.size
  clear B23 X23 OW23 YW23 YX23 YG23 OM23 YZ23 hb v0 v1 v2 v3 u0 u1 u2 u3
  obtain ⟨v0, v1, v2, v3⟩ := box4 YG24.out
  go_wp2_with fail
  refine (c_heldDisk hg w24 OM24.out.rd (by omega) (by omega) (by omega)).mono ?_
  rintro e w25 ⟨rfl, hb⟩
  have B25 : Hid (Below w.heap.size w w25) := B24.out.trans (hb.mono B24.out.size)
  have X25 : Hid (Box w25 w.heap.size 50 #[.slice h.a0 h.n0 h.c0, .slice h.a1 h.n1 h.c1, .bool h.b, .slice h.a2 h.n2 h.c2]) := X24.out.belowS hb
  have OW25 : Hid (OwnD w25 w3.heap.size w4.heap.size hw R) := OW24.out.below hb
  have YW25 : Hid (Box w25 w4.heap.size 27 #[.slice hw.a0 hw.n0 hw.c0, .slice hw.a1 hw.n1 hw.c1, .bool hw.b, .slice hw.a2 hw.n2 hw.c2]) := YW24.out.belowS hb
  have YX25 : Hid (Box w25 w6.heap.size 27 #[.slice hx.a0 hx.n0 hx.c0, .slice hx.a1 hx.n1 hx.c1, .bool hx.b, .slice hx.a2 hx.n2 hx.c2]) := YX24.out.belowS hb
  have YG25 : Hid (Box w25 w9.heap.size 27 #[.slice hg.a0 hg.n0 hg.c0, .slice hg.a1 hg.n1 hg.c1, .bool hg.b, .slice hg.a2 hg.n2 hg.c2]) := YG24.out.belowS hb
  have OM25 : Hid (OwnD w25 w8.heap.size w9.heap.size hg (markD hg)) := OM24.out.below hb
  have YZ25 : Hid (Box w25 w22.heap.size 27 #[.slice hz.a0 hz.n0 hz.c0, .slice hz.a1 hz.n1 hz.c1, .bool hz.b, .slice hz.a2 hz.n2 hz.c2]) := YZ24.out.belowS hb
  have q2425 : w24.heap.size ≤ w25.heap.size := hb.size
  clear B24 X24 OW24 YW24 YX24 YG24 OM24 YZ24 hb v0 v1 v2 v3
  go_wp2
  go_ret
  exact ⟨rfl, B25.out⟩
end Go.Proofs.Ytefbaemcdfmhpaa
