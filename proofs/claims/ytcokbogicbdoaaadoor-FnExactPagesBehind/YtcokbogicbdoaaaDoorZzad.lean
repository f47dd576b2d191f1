/-
  Sums of bytes as four bytes, and bytes with their sum behind.
-/
import Derived.Test.YtcokbogicbdoaaaDoorZzab
import Derived.Test.YtcokbogicbdoaaaDoorCrcq
import Derived.Test.YtcokbogicbdoaaaDoorZzac
import Derived.Deep.RegionLawGrows
namespace Go.Proofs.YtcokbogicbdoaaaDoor
open Go Go.RowKit
attribute [local go_sem ↓] Go.wp_at_zero Go.wp_at_succ


/-- What a record says. -/
structure DR where
  e : Int
  l : Int
  t : Int
  k : Int
  p : Int
  n : Int
  g : Int
  s : Int
  b : ByteArray
  a : ByteArray
def agR (D : DR) : Array Value := #[.int .i64 D.e, .int .i64 D.l, .int .i64 D.t, .int .i64 D.k, .int .i64 D.p, .int .i64 D.n, .int .i64 D.g, .int .i64 D.s, .string D.b, .string D.a]
def noT : ByteArray := ⟨#[]⟩
def zeroR : DR := ⟨0, 0, 0, 0, 0, 0, 0, 0, noT, noT⟩
def placeB (g s : Int) : Bool := inB g 0 7 && inB s 0 3
def endB (D : DR) : Bool := inB D.t 1 60 && decide (D.p = 0 ∧ D.n = 0 ∧ D.g = 0 ∧ D.s = 0 ∧ D.b.size = 0 ∧ D.a.size = 0)
def prevB (D : DR) : Bool := inB D.p 1 (D.l - 1) && endB { D with p := 0 }
def clrB (D : DR) : Bool := placeB D.g D.s && (decide (D.a.size ≤ 30) && (inB D.n 0 (D.l - 1) && prevB { D with g := 0, s := 0, a := noT, n := 0 }))
def updB (D : DR) : Bool := decide (D.n = 0) && (decide (D.b.size ≤ 30) && clrB { D with b := noT })
def stepB (D : DR) : Bool := if D.k = 2 then updB D else if D.k = 3 then clrB D else if D.k = 4 ∨ D.k = 5 then prevB D else if D.k = 1 then endB D else false
/-- The bytes of a text, as numbers. -/
def numsT (t : ByteArray) : List Int := t.toList.map fun b => (b.toNat : Int)
def prs (n : Nat) (r : List Int) : List (Int × Int) := (List.range n).map fun i => (r.getD (2 * i) 0, r.getD (2 * i + 1) 0)
def rc1 : List Int → Option (List (Int × Int) × List Int)
  | [] => none
  | z :: r => if r.length < 2 * z.toNat then none else some (prs z.toNat r, r.drop (2 * z.toNat))
def rg : List (Int × Int) → Int → Int → Int → Bool
  | [], _, _, _ => true
  | c :: r, lo, hi, l => inB c.1 lo hi && (inB c.2 1 (l - 1) && rg r (c.1 + 1) hi l)
def rc2 (t : List Int) : Option (List (Int × Int) × List (Int × Int)) :=
  match rc1 t with
  | none => none
  | some (ps, r) => match rc1 r with
    | none => none
    | some (ts, r') => if r' = [] then some (ps, ts) else none
def ckB (t : List Int) (l : Int) : Bool :=
  match rc2 t with
  | none => false
  | some (ps, ts) => decide (ts.length ≤ 10) && (rg ps 0 7 l && rg ts 1 60 l)
def plainB (D : DR) : Bool := decide (D.t = 0 ∧ D.k = 6 ∧ D.p = 0 ∧ D.n = 0 ∧ D.g = 0 ∧ D.s = 0 ∧ D.b.size = 0)
def checkB (D : DR) : Bool := plainB D && ckB (numsT D.a) D.l
def okLR (D : DR) : Bool := inB D.e 1 60 && (inB D.l 1 60 && (stepB D || checkB D))

/-! The specification's way. -/
def rgS : List (Int × Int) → Option Int → Int → Int → Int → Bool
  | [], _, _, _, _ => true
  | c :: r, q, lo, hi, l => inB c.1 lo hi && (inB c.2 1 (l - 1) && ((match q with | none => true | some q => decide (q < c.1)) && rgS r (some c.1) lo hi l))
theorem rgS_some : ∀ (ds : List (Int × Int)) (q lo hi l : Int), lo ≤ q + 1 → rgS ds (some q) lo hi l = rg ds (q + 1) hi l
  | [], _, _, _, _, _ => rfl
  | c :: r, q, lo, hi, l, h => by
    unfold rgS rg
    by_cases h1 : q + 1 ≤ c.1
    · rw [rgS_some r c.1 lo hi l (by omega)]
      have e1 : inB c.1 lo hi = inB c.1 (q + 1) hi := by unfold inB; exact decide_eq_decide.2 (by omega)
      have e2 : (q < c.1) := (by omega)
      rw [e1]
      simp [e2]
    · have e1 : inB c.1 (q + 1) hi = false := by unfold inB; exact decide_eq_false (by omega)
      have e2 : ¬ (q < c.1) := (by omega)
      rw [e1]
      simp [e2]
theorem rgS_none (ds : List (Int × Int)) (lo hi l : Int) : rgS ds none lo hi l = rg ds lo hi l := by
  cases ds with
  | nil => rfl
  | cons c r =>
    unfold rgS rg
    by_cases h1 : lo ≤ c.1
    · rw [rgS_some r c.1 lo hi l (by omega)]
      simp
    · have e1 : inB c.1 lo hi = false := by unfold inB; exact decide_eq_false (by omega)
      rw [e1]
      simp
theorem rg_len : ∀ (ds : List (Int × Int)) (lo hi l : Int), rg ds lo hi l = true → lo ≤ hi + 1 → (ds.length : Int) ≤ hi + 1 - lo
  | [], _, _, _, _, h => by simp; omega
  | c :: r, lo, hi, l, h, _ => by
    unfold rg at h
    simp only [Bool.and_eq_true] at h
    have h1 : lo ≤ c.1 ∧ c.1 ≤ hi := by simpa [inB] using h.1
    have := rg_len r (c.1 + 1) hi l h.2.2 (by omega)
    simp
    omega
def chgB (D : DR) : Bool := decide (D.k = 2 ∨ D.k = 3)
def okLS (D : DR) : Bool :=
  if inB D.e 1 60 && (inB D.l 1 60 && (inB D.k 1 6 && (inB D.p 0 (D.l - 1) && (inB D.n 0 (D.l - 1) && (inB D.g 0 7 && (inB D.s 0 3 && decide (D.b.size ≤ 30))))))) then
    (if D.k = 6 then decide (D.t = 0 ∧ D.p = 0 ∧ D.n = 0 ∧ D.g = 0 ∧ D.s = 0 ∧ D.b.size = 0) && ckB (numsT D.a) D.l
     else if inB D.t 1 60 && decide (D.a.size ≤ 30) then
       (if (¬ (D.k = 2 ∨ D.k = 3) ∧ (D.g ≠ 0 ∨ D.s ≠ 0 ∨ D.b.size ≠ 0 ∨ D.a.size ≠ 0)) ∨ (D.k ≠ 3 ∧ D.n ≠ 0) ∨ (D.k = 3 ∧ D.b.size ≠ 0) then false
        else decide ((D.k = 1) ↔ (D.p = 0)))
     else false)
  else false
theorem okLS_eq (D : DR) : okLS D = okLR D := by
  obtain ⟨e, l, t, k, p, n, g, s, b, a⟩ := D
  have hn : noT.size = 0 := rfl
  generalize hc : ckB (numsT a) l = c
  unfold okLS okLR checkB plainB stepB updB clrB prevB endB placeB inB
  simp only [hc]
  generalize hbs : b.size = bs
  generalize has : a.size = az
  clear hc hbs has
  simp only [hn]
  rw [Bool.eq_iff_iff]
  by_cases k6 : k = 6
  · subst k6
    cases c <;> simp <;> omega
  · by_cases k2 : k = 2
    · subst k2; simp; omega
    · by_cases k3 : k = 3
      · subst k3; simp; omega
      · by_cases k4 : k = 4
        · subst k4; simp; omega
        · by_cases k5 : k = 5
          · subst k5; simp; omega
          · by_cases k1 : k = 1
            · subst k1; simp; omega
            · simp [k1, k2, k3, k4, k5, k6]; omega

end Go.Proofs.YtcokbogicbdoaaaDoor
namespace Go.Proofs.YtcokbogicbdoaaaDoor
open Go Go.RowKit
attribute [local go_sem ↓] Go.wp_at_zero Go.wp_at_succ


theorem box4 {w : World} {g : Nat} {t : TypeId} {v0 v1 v2 v3 : Value} (h : Box w g t #[v0, v1, v2, v3]) : w.cell? ⟨g, 0, none⟩ = some v0 ∧ w.cell? ⟨g, 1, none⟩ = some v1 ∧ w.cell? ⟨g, 2, none⟩ = some v2 ∧ w.cell? ⟨g, 3, none⟩ = some v3 := ⟨h.cell 0, h.cell 1, h.cell 2, h.cell 3⟩
theorem loadVar4 {w : World} {r : Nat} {v0 v1 v2 v3 : Value} (hb : Box w r 132 #[v0, v1, v2, v3]) : (loadVar 132 ⟨r, 0, none⟩).run Tryd.prog w = .ok (.agg #[v0, v1, v2, v3]) w := by
  have e0 : w.cell? ⟨r, 0, none⟩ = some v0 := hb.cell 0
  have e1 : w.cell? ⟨r, 1, none⟩ = some v1 := hb.cell 1
  have e2 : w.cell? ⟨r, 2, none⟩ = some v2 := hb.cell 2
  have e3 : w.cell? ⟨r, 3, none⟩ = some v3 := hb.cell 3
  simp [go_sem, e0, e1, e2, e3]
theorem ret4 {fn : Func} {p : Tmp} (h : fn.results = #[.cell p 132]) {R : Ending → World → Prop} {a : Act} {w : World} {r : Nat} {v0 v1 v2 v3 : Value} (hp : a.tmps.getD p undef = .pointer (some ⟨r, 0, none⟩)) (hd : a.defers = []) (hb : Box w r 132 #[v0, v1, v2, v3]) (hR : R (.returned (.agg #[v0, v1, v2, v3])) w) : bodyPost Tryd.prog fn R .ret a w := by
  refine bodyPost_ret ?_ hd hR
  have hp' : a.tmps[p]?.getD undef = .pointer (some ⟨r, 0, none⟩) := by simpa using hp
  simp only [results, h]
  simp [hp', asAddr, loadVar4 hb]
theorem put4_box {V : World} {r : Nat} {t : TypeId} {x0 x1 x2 x3 : Value} (h : Box V r t #[x0, x1, x2, x3]) (v0 v1 v2 v3 : Value) : Box ((((V.setCell ⟨r, 0, none⟩ v0).setCell ⟨r, 1, none⟩ v1).setCell ⟨r, 2, none⟩ v2).setCell ⟨r, 3, none⟩ v3) r t #[v0, v1, v2, v3] := by
  have := (((h.set 0 v0).set 1 v1).set 2 v2).set 3 v3
  simpa using this
theorem put4_below {B : Nat} {w V : World} (hb : Below B w V) {r : Nat} (hr : B ≤ r) (v0 v1 v2 v3 : Value) : Below B w ((((V.setCell ⟨r, 0, none⟩ v0).setCell ⟨r, 1, none⟩ v1).setCell ⟨r, 2, none⟩ v2).setCell ⟨r, 3, none⟩ v3) :=
  (((hb.setCell hr _).setCell hr _).setCell hr _).setCell hr _
theorem c_high (u : Int) (w : World) (h0 : 0 ≤ u) (h1 : u < 4294967296) :
    Calls Tryd.prog 91 #[.int .u32 u] w fun e w' => e = .returned (.agg #[.int .u8 (u / 16777216), .int .u8 (u / 65536 % 256), .int .u8 (u / 256 % 256), .int .u8 (u % 256)]) ∧ Below w.heap.size w w' := by
  go_enter Tryd.func91, Tryd.ntmps91
  go_wp2
  exact bodyPost_ret (v := .agg #[.int .u8 (u / 16777216), .int .u8 (u / 65536 % 256), .int .u8 (u / 256 % 256), .int .u8 (u % 256)]) (by simp [results, Tryd.results91, go_sem]) rfl ⟨rfl, (Below.refl _ _).alloc (Nat.le_refl _) _⟩
theorem crc_lt (zs : List Int) (hz : ∀ z ∈ zs, 0 ≤ z ∧ z < 256) : Crc.crc zs < 4294967296 := by
  unfold Crc.crc
  exact Nat.xor_lt_two_pow (n := 32) (Crc.run_lt _ hz) (by decide)
def sumZ (c : Int) : List Int := [c / 16777216, c / 65536 % 256, c / 256 % 256, c % 256]
set_option maxRecDepth 100000 in
set_option maxHeartbeats 2000000 in
theorem c_sumOf (a : Option Addr) (n cap : Nat) (zs : List Int) (w : World) (hr : RdV w a n (zs.map (Value.int .u8))) (hz : ∀ z ∈ zs, 0 ≤ z ∧ z < 256) (hn : n ≤ 65536) (ht : TabH w) (C : Int) (hC : C = (Crc.crc zs : Nat)) :
    Calls Tryd.prog 83 #[.slice a n cap] w fun e w' => e = .returned (.agg #[.int .u8 (C / 16777216), .int .u8 (C / 65536 % 256), .int .u8 (C / 256 % 256), .int .u8 (C % 256)]) ∧ Below w.heap.size w w' := by
  have hl := crc_lt zs hz
  have hC0 : 0 ≤ C := by omega
  have hC1 : C < 4294967296 := by omega
  have hw : IntKind.u32.wrap C = C := by rw [IntKind.wrap_u32']; omega
  have CK : Hid (∀ W, Below w.heap.size w W → Calls Tryd.prog 92 #[.slice a n cap] W fun e w' => e = .returned (.int .i64 C) ∧ w' = W) := fun W hW => by
    rw [hC]
    exact c12_lo a n cap zs W (rd_of_V (hr.below hW) hz) (by omega) (ht.below hW)
  clear hr hz ht hl hC
  obtain ⟨V, hV⟩ : ∃ V, w.alloc (.cells #[.int .u8 0, .int .u8 0, .int .u8 0, .int .u8 0] 132) = V := ⟨_, rfl⟩
  have HB : Hid (Below w.heap.size w V) := by unfold Hid; rw [← hV]; exact (Below.refl _ _).alloc (Nat.le_refl _) _
  have BR : Hid (Box V w.heap.size 132 #[.int .u8 0, .int .u8 0, .int .u8 0, .int .u8 0]) := by unfold Hid; rw [← hV]; exact Box.new _ _ _
  go_enter Tryd.func83, Tryd.ntmps83
  go_wp2_with fail
  refine (CK.out V HB.out).mono ?_
  rintro e w1 ⟨rfl, hq⟩
  have hq' := hq.symm
  subst hq'
  clear hq CK
  go_wp2_with fail
  refine (c_high C V hC0 hC1).mono ?_
  rintro e w2 ⟨rfl, hb⟩
  have B2 : Hid (Below w.heap.size w w2) := HB.out.trans (hb.mono HB.out.size)
  have BR2 : Hid (Box w2 w.heap.size 132 #[.int .u8 0, .int .u8 0, .int .u8 0, .int .u8 0]) := BR.out.belowS hb
  clear hb HB BR hV hw hC0 hC1
  obtain ⟨v0, v1, v2, v3⟩ := box4 BR2.out
  have t0 := BR2.out.thaw 0
  have t1 := BR2.out.thaw 1
  have t2 := BR2.out.thaw 2
  have t3 := BR2.out.thaw 3
  go_wp2
  exact ret4 Tryd.results83 rfl rfl (put4_box BR2.out _ _ _ _) ⟨rfl, put4_below B2.out (Nat.le_refl _) _ _ _ _⟩

theorem sumZ_map (C : Int) : (sumZ C).map (Value.int .u8) = (#[.int .u8 (C / 16777216), .int .u8 (C / 65536 % 256), .int .u8 (C / 256 % 256), .int .u8 (C % 256)] : Array Value).toList := rfl
theorem box_src {W : World} {g : Nat} {t : TypeId} {c : Array Value} (h : Box W g t c) : ∀ j u, c.toList[j]? = some u → W.cell? ((⟨g, 0, none⟩ : Addr).add j) = some u := by
  intro j u hj
  rw [addr_add, Nat.zero_add, h.cell j]
  simpa using hj

end Go.Proofs.YtcokbogicbdoaaaDoor
