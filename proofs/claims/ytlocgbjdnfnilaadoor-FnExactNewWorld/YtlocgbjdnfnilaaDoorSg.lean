/-
  Sums of bytes as four bytes, and bytes with their sum behind.
-/
import Derived.Test.YtlocgbjdnfnilaaDoorCrc
import Derived.Test.YtlocgbjdnfnilaaDoorFi
import Derived.Deep.RegionLawGrows
namespace Go.Proofs.YtlocgbjdnfnilaaDoor
open Go Go.RowKit
attribute [local go_sem ↓] Go.wp_at_zero Go.wp_at_succ


theorem box4 {w : World} {g : Nat} {t : TypeId} {v0 v1 v2 v3 : Value} (h : Box w g t #[v0, v1, v2, v3]) : w.cell? ⟨g, 0, none⟩ = some v0 ∧ w.cell? ⟨g, 1, none⟩ = some v1 ∧ w.cell? ⟨g, 2, none⟩ = some v2 ∧ w.cell? ⟨g, 3, none⟩ = some v3 := ⟨h.cell 0, h.cell 1, h.cell 2, h.cell 3⟩
theorem loadVar4 {w : World} {r : Nat} {v0 v1 v2 v3 : Value} (hb : Box w r 108 #[v0, v1, v2, v3]) : (loadVar 108 ⟨r, 0, none⟩).run Tryd.prog w = .ok (.agg #[v0, v1, v2, v3]) w := by
  have e0 : w.cell? ⟨r, 0, none⟩ = some v0 := hb.cell 0
  have e1 : w.cell? ⟨r, 1, none⟩ = some v1 := hb.cell 1
  have e2 : w.cell? ⟨r, 2, none⟩ = some v2 := hb.cell 2
  have e3 : w.cell? ⟨r, 3, none⟩ = some v3 := hb.cell 3
  simp [go_sem, e0, e1, e2, e3]
theorem ret4 {fn : Func} {p : Tmp} (h : fn.results = #[.cell p 108]) {R : Ending → World → Prop} {a : Act} {w : World} {r : Nat} {v0 v1 v2 v3 : Value} (hp : a.tmps.getD p undef = .pointer (some ⟨r, 0, none⟩)) (hd : a.defers = []) (hb : Box w r 108 #[v0, v1, v2, v3]) (hR : R (.returned (.agg #[v0, v1, v2, v3])) w) : bodyPost Tryd.prog fn R .ret a w := by
  refine bodyPost_ret ?_ hd hR
  have hp' : a.tmps[p]?.getD undef = .pointer (some ⟨r, 0, none⟩) := by simpa using hp
  simp only [results, h]
  simp [hp', asAddr, loadVar4 hb]
theorem put4_box {V : World} {r : Nat} {t : TypeId} {x0 x1 x2 x3 : Value} (h : Box V r t #[x0, x1, x2, x3]) (v0 v1 v2 v3 : Value) : Box ((((V.setCell ⟨r, 0, none⟩ v0).setCell ⟨r, 1, none⟩ v1).setCell ⟨r, 2, none⟩ v2).setCell ⟨r, 3, none⟩ v3) r t #[v0, v1, v2, v3] := by
  have := (((h.set 0 v0).set 1 v1).set 2 v2).set 3 v3
  simpa using this
theorem put4_below {B : Nat} {w V : World} (hb : Below B w V) {r : Nat} (hr : B ≤ r) (v0 v1 v2 v3 : Value) : Below B w ((((V.setCell ⟨r, 0, none⟩ v0).setCell ⟨r, 1, none⟩ v1).setCell ⟨r, 2, none⟩ v2).setCell ⟨r, 3, none⟩ v3) :=
  (((hb.setCell hr _).setCell hr _).setCell hr _).setCell hr _
theorem c_high (u : Int) (w : World) (h0 : 0 ≤ u) (h1 : u < 4294967296) :
    Calls Tryd.prog 73 #[.int .u32 u] w fun e w' => e = .returned (.agg #[.int .u8 (u / 16777216), .int .u8 (u / 65536 % 256), .int .u8 (u / 256 % 256), .int .u8 (u % 256)]) ∧ Below w.heap.size w w' := by
  go_enter Tryd.func73, Tryd.ntmps73
  go_wp2
  exact bodyPost_ret (v := .agg #[.int .u8 (u / 16777216), .int .u8 (u / 65536 % 256), .int .u8 (u / 256 % 256), .int .u8 (u % 256)]) (by simp [results, Tryd.results73, go_sem]) rfl ⟨rfl, (Below.refl _ _).alloc (Nat.le_refl _) _⟩
theorem crc_lt (zs : List Int) (hz : ∀ z ∈ zs, 0 ≤ z ∧ z < 256) : Crc.crc zs < 4294967296 := by
  unfold Crc.crc
  exact Nat.xor_lt_two_pow (n := 32) (Crc.run_lt _ hz) (by decide)
def sumZ (c : Int) : List Int := [c / 16777216, c / 65536 % 256, c / 256 % 256, c % 256]
set_option maxRecDepth 100000 in
set_option maxHeartbeats 2000000 in
theorem c_sumOf (a : Option Addr) (n cap : Nat) (zs : List Int) (w : World) (hr : RdV w a n (zs.map (Value.int .u8))) (hz : ∀ z ∈ zs, 0 ≤ z ∧ z < 256) (hn : n ≤ 65536) (ht : TabH w) (C : Int) (hC : C = (Crc.crc zs : Nat)) :
    Calls Tryd.prog 70 #[.slice a n cap] w fun e w' => e = .returned (.agg #[.int .u8 (C / 16777216), .int .u8 (C / 65536 % 256), .int .u8 (C / 256 % 256), .int .u8 (C % 256)]) ∧ Below w.heap.size w w' := by
  have hl := crc_lt zs hz
  have hC0 : 0 ≤ C := by omega
  have hC1 : C < 4294967296 := by omega
  have hw : IntKind.u32.wrap C = C := by rw [IntKind.wrap_u32']; omega
  have CK : Hid (∀ W, Below w.heap.size w W → Calls Tryd.prog 74 #[.slice a n cap] W fun e w' => e = .returned (.int .i64 C) ∧ w' = W) := fun W hW => by
    rw [hC]
    exact c12_lo a n cap zs W (rd_of_V (hr.below hW) hz) (by omega) (ht.below hW)
  clear hr hz ht hl hC
  obtain ⟨V, hV⟩ : ∃ V, w.alloc (.cells #[.int .u8 0, .int .u8 0, .int .u8 0, .int .u8 0] 108) = V := ⟨_, rfl⟩
  have HB : Hid (Below w.heap.size w V) := by unfold Hid; rw [← hV]; exact (Below.refl _ _).alloc (Nat.le_refl _) _
  have BR : Hid (Box V w.heap.size 108 #[.int .u8 0, .int .u8 0, .int .u8 0, .int .u8 0]) := by unfold Hid; rw [← hV]; exact Box.new _ _ _
  go_enter Tryd.func70, Tryd.ntmps70
  go_wp2_with fail
  refine (CK.out V HB.out).mono ?_
  rintro e w1 ⟨rfl, hq⟩
  have hq' := hq.symm
  subst hq'
  clear hq CK
  go_wp2_with fail
  refine (c_high C V hC0 hC1).mono ?_
  rintro e w2 ⟨rfl, hb⟩
  have B2 : Hid (Below w.heap.size w w2) := HB.out.trans (hb.mono HB.out.size)
  have BR2 : Hid (Box w2 w.heap.size 108 #[.int .u8 0, .int .u8 0, .int .u8 0, .int .u8 0]) := BR.out.belowS hb
  clear hb HB BR hV hw hC0 hC1
  obtain ⟨v0, v1, v2, v3⟩ := box4 BR2.out
  have t0 := BR2.out.thaw 0
  have t1 := BR2.out.thaw 1
  have t2 := BR2.out.thaw 2
  have t3 := BR2.out.thaw 3
  go_wp2
  exact ret4 Tryd.results70 rfl rfl (put4_box BR2.out _ _ _ _) ⟨rfl, put4_below B2.out (Nat.le_refl _) _ _ _ _⟩

theorem sumZ_map (C : Int) : (sumZ C).map (Value.int .u8) = (#[.int .u8 (C / 16777216), .int .u8 (C / 65536 % 256), .int .u8 (C / 256 % 256), .int .u8 (C % 256)] : Array Value).toList := rfl
theorem box_src {W : World} {g : Nat} {t : TypeId} {c : Array Value} (h : Box W g t c) : ∀ j u, c.toList[j]? = some u → W.cell? ((⟨g, 0, none⟩ : Addr).add j) = some u := by
  intro j u hj
  rw [addr_add, Nat.zero_add, h.cell j]
  simpa using hj

end Go.Proofs.YtlocgbjdnfnilaaDoor
