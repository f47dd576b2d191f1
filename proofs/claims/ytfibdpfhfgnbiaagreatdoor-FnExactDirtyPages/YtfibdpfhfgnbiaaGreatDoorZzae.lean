/-
  Bytes with their sum behind: the specification's own.
-/
import Derived.Test.YtfibdpfhfgnbiaaGreatDoorZzab
import Derived.Test.YtfibdpfhfgnbiaaGreatDoorZzac
import Derived.ChangeKeysEq
import Derived.Laws.StructEq
import Derived.Laws.Cover3
import Derived.Test.YtfibdpfhfgnbiaaGreatDoorZzad
import Derived.Laws.IdiomStrings
namespace Go.Proofs.YtfibdpfhfgnbiaaGreatDoor
open Go Go.RowKit
attribute [local go_sem ↓] Go.wp_at_zero Go.wp_at_succ


/-- What a record says. -/
structure DR where
  e : Int
  l : Int
  t : Int
  k : Int
  p : Int
  n : Int
  g : Int
  s : Int
  b : ByteArray
  a : ByteArray
def agR (D : DR) : Array Value := #[.int .i64 D.e, .int .i64 D.l, .int .i64 D.t, .int .i64 D.k, .int .i64 D.p, .int .i64 D.n, .int .i64 D.g, .int .i64 D.s, .string D.b, .string D.a]
def noT : ByteArray := ⟨#[]⟩
def zeroR : DR := ⟨0, 0, 0, 0, 0, 0, 0, 0, noT, noT⟩
def placeB (g s : Int) : Bool := inB g 0 7 && inB s 0 3
def endB (D : DR) : Bool := inB D.t 1 60 && decide (D.p = 0 ∧ D.n = 0 ∧ D.g = 0 ∧ D.s = 0 ∧ D.b.size = 0 ∧ D.a.size = 0)
def prevB (D : DR) : Bool := inB D.p 1 (D.l - 1) && endB { D with p := 0 }
def clrB (D : DR) : Bool := placeB D.g D.s && (decide (D.a.size ≤ 30) && (inB D.n 0 (D.l - 1) && prevB { D with g := 0, s := 0, a := noT, n := 0 }))
def updB (D : DR) : Bool := decide (D.n = 0) && (decide (D.b.size ≤ 30) && clrB { D with b := noT })
def stepB (D : DR) : Bool := if D.k = 2 then updB D else if D.k = 3 then clrB D else if D.k = 4 ∨ D.k = 5 then prevB D else if D.k = 1 then endB D else false
/-- The bytes of a text, as numbers. -/
def numsT (t : ByteArray) : List Int := t.toList.map fun b => (b.toNat : Int)
def prs (n : Nat) (r : List Int) : List (Int × Int) := (List.range n).map fun i => (r.getD (2 * i) 0, r.getD (2 * i + 1) 0)
def rc1 : List Int → Option (List (Int × Int) × List Int)
  | [] => none
  | z :: r => if r.length < 2 * z.toNat then none else some (prs z.toNat r, r.drop (2 * z.toNat))
def rg : List (Int × Int) → Int → Int → Int → Bool
  | [], _, _, _ => true
  | c :: r, lo, hi, l => inB c.1 lo hi && (inB c.2 1 (l - 1) && rg r (c.1 + 1) hi l)
def rc2 (t : List Int) : Option (List (Int × Int) × List (Int × Int)) :=
  match rc1 t with
  | none => none
  | some (ps, r) => match rc1 r with
    | none => none
    | some (ts, r') => if r' = [] then some (ps, ts) else none
def ckB (t : List Int) (l : Int) : Bool :=
  match rc2 t with
  | none => false
  | some (ps, ts) => decide (ts.length ≤ 10) && (rg ps 0 7 l && rg ts 1 60 l)
def plainB (D : DR) : Bool := decide (D.t = 0 ∧ D.k = 6 ∧ D.p = 0 ∧ D.n = 0 ∧ D.g = 0 ∧ D.s = 0 ∧ D.b.size = 0)
def checkB (D : DR) : Bool := plainB D && ckB (numsT D.a) D.l
def okLR (D : DR) : Bool := inB D.e 1 60 && (inB D.l 1 60 && (stepB D || checkB D))

/-! The specification's way. -/
def rgS : List (Int × Int) → Option Int → Int → Int → Int → Bool
  | [], _, _, _, _ => true
  | c :: r, q, lo, hi, l => inB c.1 lo hi && (inB c.2 1 (l - 1) && ((match q with | none => true | some q => decide (q < c.1)) && rgS r (some c.1) lo hi l))
theorem rgS_some : ∀ (ds : List (Int × Int)) (q lo hi l : Int), lo ≤ q + 1 → rgS ds (some q) lo hi l = rg ds (q + 1) hi l
  | [], _, _, _, _, _ => rfl
  | c :: r, q, lo, hi, l, h => by
    unfold rgS rg
    by_cases h1 : q + 1 ≤ c.1
    · rw [rgS_some r c.1 lo hi l (by omega)]
      have e1 : inB c.1 lo hi = inB c.1 (q + 1) hi := by unfold inB; exact decide_eq_decide.2 (by omega)
      have e2 : (q < c.1) := (by omega)
      rw [e1]
      simp [e2]
    · have e1 : inB c.1 (q + 1) hi = false := by unfold inB; exact decide_eq_false (by omega)
      have e2 : ¬ (q < c.1) := (by omega)
      rw [e1]
      simp [e2]
theorem rgS_none (ds : List (Int × Int)) (lo hi l : Int) : rgS ds none lo hi l = rg ds lo hi l := by
  cases ds with
  | nil => rfl
  | cons c r =>
    unfold rgS rg
    by_cases h1 : lo ≤ c.1
    · rw [rgS_some r c.1 lo hi l (by omega)]
      simp
    · have e1 : inB c.1 lo hi = false := by unfold inB; exact decide_eq_false (by omega)
      rw [e1]
      simp
theorem rg_len : ∀ (ds : List (Int × Int)) (lo hi l : Int), rg ds lo hi l = true → lo ≤ hi + 1 → (ds.length : Int) ≤ hi + 1 - lo
  | [], _, _, _, _, h => by simp; omega
  | c :: r, lo, hi, l, h, _ => by
    unfold rg at h
    simp only [Bool.and_eq_true] at h
    have h1 : lo ≤ c.1 ∧ c.1 ≤ hi := by simpa [inB] using h.1
    have := rg_len r (c.1 + 1) hi l h.2.2 (by omega)
    simp
    omega
def chgB (D : DR) : Bool := decide (D.k = 2 ∨ D.k = 3)
def okLS (D : DR) : Bool :=
  if inB D.e 1 60 && (inB D.l 1 60 && (inB D.k 1 6 && (inB D.p 0 (D.l - 1) && (inB D.n 0 (D.l - 1) && (inB D.g 0 7 && (inB D.s 0 3 && decide (D.b.size ≤ 30))))))) then
    (if D.k = 6 then decide (D.t = 0 ∧ D.p = 0 ∧ D.n = 0 ∧ D.g = 0 ∧ D.s = 0 ∧ D.b.size = 0) && ckB (numsT D.a) D.l
     else if inB D.t 1 60 && decide (D.a.size ≤ 30) then
       (if (¬ (D.k = 2 ∨ D.k = 3) ∧ (D.g ≠ 0 ∨ D.s ≠ 0 ∨ D.b.size ≠ 0 ∨ D.a.size ≠ 0)) ∨ (D.k ≠ 3 ∧ D.n ≠ 0) ∨ (D.k = 3 ∧ D.b.size ≠ 0) then false
        else decide ((D.k = 1) ↔ (D.p = 0)))
     else false)
  else false
theorem okLS_eq (D : DR) : okLS D = okLR D := by
  obtain ⟨e, l, t, k, p, n, g, s, b, a⟩ := D
  have hn : noT.size = 0 := rfl
  generalize hc : ckB (numsT a) l = c
  unfold okLS okLR checkB plainB stepB updB clrB prevB endB placeB inB
  simp only [hc]
  generalize hbs : b.size = bs
  generalize has : a.size = az
  clear hc hbs has
  simp only [hn]
  rw [Bool.eq_iff_iff]
  by_cases k6 : k = 6
  · subst k6
    cases c <;> simp <;> omega
  · by_cases k2 : k = 2
    · subst k2; simp; omega
    · by_cases k3 : k = 3
      · subst k3; simp; omega
      · by_cases k4 : k = 4
        · subst k4; simp; omega
        · by_cases k5 : k = 5
          · subst k5; simp; omega
          · by_cases k1 : k = 1
            · subst k1; simp; omega
            · simp [k1, k2, k3, k4, k5, k6]; omega

end Go.Proofs.YtfibdpfhfgnbiaaGreatDoor
namespace Go.Proofs.YtfibdpfhfgnbiaaGreatDoor
open Go Go.RowKit
attribute [local go_sem ↓] Go.wp_at_zero Go.wp_at_succ


end Go.Proofs.YtfibdpfhfgnbiaaGreatDoor
namespace Go.Proofs.YtfibdpfhfgnbiaaGreatDoor
open Go Go.RowKit

theorem eq4 (W : World) (a0 a1 a2 a3 b0 b1 b2 b3 : Int) : (Op.equalIn 10000 360 (.agg #[.int .u8 a0, .int .u8 a1, .int .u8 a2, .int .u8 a3]) (.agg #[.int .u8 b0, .int .u8 b1, .int .u8 b2, .int .u8 b3])).run Tryz.prog W = .ok (a0 == b0 && (a1 == b1 && (a2 == b2 && a3 == b3))) W := by
  obtain ⟨i0, hi, _⟩ := info_parts infoB
  rw [run_equalIn_array W 9999 _ _ Tryz.underlying360 hi]
  have hc : Tryz.prog.cellsOf 5 = 1 := by kernel_rfl
  have hr : List.range 4 = [0, 1, 2, 3] := rfl
  rw [hc, hr]
  cases h0 : (a0 == b0) <;> cases h1 : (a1 == b1) <;> cases h2 : (a2 == b2) <;> cases h3 : (a3 == b3)
  all_goals simp [Op.eqItems, part, go_sem, h0, h1, h2, h3]
end Go.Proofs.YtfibdpfhfgnbiaaGreatDoor
namespace Go.Proofs.YtfibdpfhfgnbiaaGreatDoor
open Go Go.RowKit
attribute [local go_sem ↓] Go.wp_at_zero Go.wp_at_succ


def headZ (zs : List Int) : List Int := zs.take (zs.length - 4)
def tailZ (zs : List Int) : List Int := zs.drop (zs.length - 4)
def unsB (zs : List Int) : Bool := decide (4 ≤ zs.length) && decide (sumZ (Crc.crc (headZ zs) : Nat) = tailZ zs)
theorem uns_lo {zs : List Int} (h : zs.length < 4) : unsB zs = false := by unfold unsB; rw [decide_eq_false (by omega)]; rfl
theorem uns_no {zs : List Int} (h : ¬ sumZ (Crc.crc (headZ zs) : Nat) = tailZ zs) : unsB zs = false := by unfold unsB; rw [decide_eq_false h]; simp
theorem uns_yes {zs : List Int} (h4 : 4 ≤ zs.length) (h : sumZ (Crc.crc (headZ zs) : Nat) = tailZ zs) : unsB zs = true := by unfold unsB; rw [decide_eq_true h, decide_eq_true h4]; rfl
theorem tail4 {zs : List Int} (h4 : 4 ≤ zs.length) : ∃ t0 t1 t2 t3, tailZ zs = [t0, t1, t2, t3] ∧ t0 = zs.getD (zs.length - 4) 0 ∧ t1 = zs.getD (zs.length - 4 + 1) 0 ∧ t2 = zs.getD (zs.length - 4 + 2) 0 ∧ t3 = zs.getD (zs.length - 4 + 3) 0 := by
  refine ⟨_, _, _, _, ?_, rfl, rfl, rfl, rfl⟩
  unfold tailZ
  apply List.ext_getElem
  · simp; omega
  intro i h1 h2
  simp at h2
  rw [List.getElem_drop]
  have : i = 0 ∨ i = 1 ∨ i = 2 ∨ i = 3 := by omega
  rcases this with rfl | rfl | rfl | rfl
  all_goals
    simp only [List.getElem_cons_zero, List.getElem_cons_succ, Nat.add_zero]
    rw [List.getD_eq_getElem?_getD, List.getElem?_eq_getElem (by omega)]
    rfl
theorem head_bytes {zs : List Int} (hz : ∀ z ∈ zs, 0 ≤ z ∧ z < 256) : ∀ z ∈ headZ zs, 0 ≤ z ∧ z < 256 := fun z h => hz z (List.mem_of_mem_take h)
theorem head_rd {w : World} {a : Option Addr} {n : Nat} {zs : List Int} (h : RdV w a n (zs.map (Value.int .u8))) : RdV w a (n - 4) ((headZ zs).map (Value.int .u8)) := by
  obtain ⟨hl, hc⟩ := h
  simp only [List.length_map] at hl
  refine ⟨by simp [headZ]; omega, fun h0 => ?_⟩
  obtain ⟨b, off, e, hlt, hc⟩ := hc (by omega)
  refine ⟨b, off, e, hlt, fun i hi => ?_⟩
  rw [hc i (by omega)]
  unfold headZ
  rw [List.getElem?_map, List.getElem?_map, List.getElem?_take_of_lt (by omega)]
def unsV (b off n : Nat) (u : Bool) : Value := if u then .slice (some ⟨b, off, none⟩) (n - 4) (n - 4) else .slice none 0 0
set_option maxRecDepth 100000 in
set_option maxHeartbeats 4000000 in
theorem c_unseal (b off n cap : Nat) (zs : List Int) (w : World) (hr : RdV w (some ⟨b, off, none⟩) n (zs.map (Value.int .u8))) (hz : ∀ z ∈ zs, 0 ≤ z ∧ z < 256) (hn : n ≤ 65536) (hcap : n ≤ cap) (h4 : 4 ≤ n) (ht : TabH w) :
    Calls Tryz.prog 281 #[.slice (some ⟨b, off, none⟩) n cap] w fun e w' => e = .returned (.tuple #[unsV b off n (unsB zs), .bool (unsB zs)]) ∧ Below w.heap.size w w' := by
  have hl : zs.length = n := by simpa using hr.1
  obtain ⟨t0, t1, t2, t3, ht4, e0, e1, e2, e3⟩ := tail4 (zs := zs) (by omega)
  obtain ⟨C, hC⟩ : ∃ C : Int, C = (Crc.crc (headZ zs) : Nat) := ⟨_, rfl⟩
  have SUM : Hid (∀ W cp, Below w.heap.size w W → Calls Tryz.prog 303 #[.slice (some ⟨b, off, none⟩) (n - 4) cp] W fun e w' => e = .returned (.agg #[.int .u8 (C / 16777216), .int .u8 (C / 65536 % 256), .int .u8 (C / 256 % 256), .int .u8 (C % 256)]) ∧ Below W.heap.size W w') := fun W cp hW => c_sumOf _ (n - 4) cp (headZ zs) W ((head_rd hr).below hW) (head_bytes hz) (by omega) (ht.below hW) C hC
  obtain ⟨b', off', e, hbl, hc⟩ := hr.2 (by omega)
  cases e
  rw [hl] at e0 e1 e2 e3
  have c0 : w.cell? ⟨b, off + (n - 4), none⟩ = some (.int .u8 t0) := by rw [e0, hc _ (by omega)]; exact map_get _ _ _ _ (by omega)
  have c1 : w.cell? ⟨b, off + (n - 4) + 1, none⟩ = some (.int .u8 t1) := by rw [e1, Nat.add_assoc, hc _ (by omega)]; exact map_get _ _ _ _ (by omega)
  have c2 : w.cell? ⟨b, off + (n - 4) + 2, none⟩ = some (.int .u8 t2) := by rw [e2, Nat.add_assoc, hc _ (by omega)]; exact map_get _ _ _ _ (by omega)
  have c3 : w.cell? ⟨b, off + (n - 4) + 3, none⟩ = some (.int .u8 t3) := by rw [e3, Nat.add_assoc, hc _ (by omega)]; exact map_get _ _ _ _ (by omega)
  have UE : Hid ((C / 16777216 = t0 ∧ C / 65536 % 256 = t1 ∧ C / 256 % 256 = t2 ∧ C % 256 = t3 → unsB zs = true) ∧ (¬ (C / 16777216 = t0 ∧ C / 65536 % 256 = t1 ∧ C / 256 % 256 = t2 ∧ C % 256 = t3) → unsB zs = false)) := by
    refine ⟨fun h => uns_yes (by omega) (by rw [← hC, ht4]; unfold sumZ; rw [h.1, h.2.1, h.2.2.1, h.2.2.2]), fun h => uns_no (fun e => h ?_)⟩
    rw [← hC, ht4] at e
    simp [sumZ] at e
    exact e
  have hm4 : (n : Int) - 4 = ((n - 4 : Nat) : Int) := by omega
  obtain ⟨m, hm⟩ : ∃ m, m = n - 4 := ⟨_, rfl⟩
  rw [← hm] at c0 c1 c2 c3 hm4 SUM
  have hmn : n = m + 4 := by omega
  subst hmn
  clear hr hz ht hl ht4 e0 e1 e2 e3 hC hc hm
  have harr : ∀ W : World, (Instr.arrayAt 360 (.slice (some ⟨b, off + m, none⟩) 4 (cap - m))).run Tryz.prog W = .ok (.pointer (some ⟨b, off + m, none⟩)) W := fun W => run_arrayAt W 360 5 4 _ 4 (cap - m) Tryz.underlying360 (Nat.le_refl _)
  have z0 : ¬ (m : Int) < 0 := by omega
  have z1 : (0 : Int) ≤ (m : Int) := by omega
  have z2 : (m : Int) ≤ (cap : Int) := by omega
  have z3 : (m : Int) ≤ ((m + 4 : Nat) : Int) := by omega
  have z4 : (m : Int) ≤ (m : Int) + 4 := by omega
  have z5 : (m : Int) + 4 ≤ (cap : Int) := by omega
  by_cases hu : C / 16777216 = t0 ∧ C / 65536 % 256 = t1 ∧ C / 256 % 256 = t2 ∧ C % 256 = t3
  · have E : Hid (unsB zs = true) := UE.out.1 hu
    obtain ⟨rfl, rfl, rfl, rfl⟩ := hu
    have heq : ∀ W : World, (Op.equalIn 10000 360 (.agg #[.int .u8 (C / 16777216), .int .u8 (C / 65536 % 256), .int .u8 (C / 256 % 256), .int .u8 (C % 256)]) (.agg #[.int .u8 (C / 16777216), .int .u8 (C / 65536 % 256), .int .u8 (C / 256 % 256), .int .u8 (C % 256)])).run Tryz.prog W = .ok true W := fun W => by rw [eq4]; simp
    clear UE
    go_enter Tryz.func281, Tryz.ntmps281
    go_wp2_with fail
    go_region_held3 (fun x => x.cell? ⟨b, off + m, none⟩ = some (.int .u8 (C / 16777216)) ∧ x.cell? ⟨b, off + m + 1, none⟩ = some (.int .u8 (C / 65536 % 256)) ∧ x.cell? ⟨b, off + m + 2, none⟩ = some (.int .u8 (C / 256 % 256)) ∧ x.cell? ⟨b, off + m + 3, none⟩ = some (.int .u8 (C % 256)))
      (first | exact k1 | go_keep)
      (first
        | (go_at_call 303; refine (SUM.out _ _ (by exact (Below.refl _ _).drew)).mono ?_; rintro e w1 ⟨rfl, hb⟩
           have k1 : w1.cell? ⟨b, off + m, none⟩ = some (.int .u8 (C / 16777216)) ∧ w1.cell? ⟨b, off + m + 1, none⟩ = some (.int .u8 (C / 65536 % 256)) ∧ w1.cell? ⟨b, off + m + 2, none⟩ = some (.int .u8 (C / 256 % 256)) ∧ w1.cell? ⟨b, off + m + 3, none⟩ = some (.int .u8 (C % 256)) := ⟨far6 hb c0, far6 hb c1, far6 hb c2, far6 hb c3⟩))
    all_goals
      have B1 : Hid (Below w.heap.size w w1) := (Below.refl w.heap.size w).drew.trans hb
      clear hb k1 c0 c1 c2 c3 SUM
      go_wp2
      go_ret2
      rw [E.out]
      exact ⟨rfl, B1.out⟩
  · have E : Hid (unsB zs = false) := UE.out.2 hu
    have heq : ∀ W : World, (Op.equalIn 10000 360 (.agg #[.int .u8 (C / 16777216), .int .u8 (C / 65536 % 256), .int .u8 (C / 256 % 256), .int .u8 (C % 256)]) (.agg #[.int .u8 t0, .int .u8 t1, .int .u8 t2, .int .u8 t3])).run Tryz.prog W = .ok false W := fun W => by
      rw [eq4]
      have : (C / 16777216 == t0 && (C / 65536 % 256 == t1 && (C / 256 % 256 == t2 && C % 256 == t3))) = false := by
        rw [Bool.eq_false_iff]
        intro e
        simp only [Bool.and_eq_true, beq_iff_eq] at e
        exact hu e
      rw [this]
    clear UE hu
    go_enter Tryz.func281, Tryz.ntmps281
    go_wp2_with fail
    go_region_held3 (fun x => x.cell? ⟨b, off + m, none⟩ = some (.int .u8 t0) ∧ x.cell? ⟨b, off + m + 1, none⟩ = some (.int .u8 t1) ∧ x.cell? ⟨b, off + m + 2, none⟩ = some (.int .u8 t2) ∧ x.cell? ⟨b, off + m + 3, none⟩ = some (.int .u8 t3))
      (first | exact k1 | go_keep)
      (first
        | (go_at_call 303; refine (SUM.out _ _ (by exact (Below.refl _ _).drew)).mono ?_; rintro e w1 ⟨rfl, hb⟩
           have k1 : w1.cell? ⟨b, off + m, none⟩ = some (.int .u8 t0) ∧ w1.cell? ⟨b, off + m + 1, none⟩ = some (.int .u8 t1) ∧ w1.cell? ⟨b, off + m + 2, none⟩ = some (.int .u8 t2) ∧ w1.cell? ⟨b, off + m + 3, none⟩ = some (.int .u8 t3) := ⟨far6 hb c0, far6 hb c1, far6 hb c2, far6 hb c3⟩))
    all_goals
      have B1 : Hid (Below w.heap.size w w1) := (Below.refl w.heap.size w).drew.trans hb
      clear hb k1 c0 c1 c2 c3 SUM heq
      go_wp2
      go_ret2
      rw [E.out]
      exact ⟨rfl, B1.out⟩
theorem c_unseal_lo (a : Option Addr) (n cap : Nat) (w : World) (h4 : n < 4) :
    Calls Tryz.prog 281 #[.slice a n cap] w fun e w' => e = .returned (.tuple #[.slice none 0 0, .bool false]) ∧ ∃ q, w' = w.drewN q := by
  have z0 : (n : Int) - 4 < 0 := by omega
  have z1 : (n : Int) < 4 := by omega
  go_enter Tryz.func281, Tryz.ntmps281
  go_wp2_with fail
  go_quiet (fail)
  go_wp2
  go_ret2
  exact ⟨rfl, _, rfl⟩

end Go.Proofs.YtfibdpfhfgnbiaaGreatDoor
namespace Go.Proofs.YtfibdpfhfgnbiaaGreatDoor
open Go Go.RowKit
attribute [local go_sem ↓] Go.wp_at_zero Go.wp_at_succ

/-! ### Fields that are read are those that were written, and the other way round. -/
theorem strZ_back (s : ByteArray) : strOfNums (strZ s) = s := by
  unfold strOfNums strZ
  rw [List.map_map]
  have : s.data.toList.map ((fun n : Int => UInt8.ofNat n.toNat) ∘ fun b => (b.toNat : Int)) = s.data.toList := by
    conv => rhs; rw [← List.map_id s.data.toList]
    apply List.map_congr_left
    intro b _
    simp
  rw [this]
theorem strZ_of {xs : List Int} (h : ∀ z ∈ xs, 0 ≤ z ∧ z < 256) : strZ (strOfNums xs) = xs := by
  unfold strOfNums strZ
  rw [List.map_map]
  conv => rhs; rw [← List.map_id xs]
  apply List.map_congr_left
  intro z hz
  have := h z hz
  simp only [Function.comp_apply, UInt8.toNat_ofNat', id_eq]
  omega
def fl (ss : List ByteArray) : List Int := (ss.map fun s => (s.size : Int) :: strZ s).flatten
theorem fl_cons (s : ByteArray) (ss : List ByteArray) : fl (s :: ss) = (s.size : Int) :: (strZ s ++ fl ss) := by simp [fl]
theorem rd_fl : ∀ ss : List ByteArray, rd ss.length (fl ss) = some ss
  | [] => rfl
  | s :: ss => by
    rw [fl_cons, List.length_cons, rd_step (by rw [List.length_append, strZ_len]; simp)]
    have e : ((s.size : Int)).toNat = (strZ s).length := by rw [strZ_len]; simp
    rw [e, List.drop_left, List.take_left, rd_fl ss, strZ_back]
    rfl
theorem fl_rd : ∀ (c : Nat) (zs : List Int) (l : List ByteArray), (∀ z ∈ zs, 0 ≤ z ∧ z < 256) → rd c zs = some l → l.length = c ∧ fl l = zs ∧ ∀ s ∈ l, s.size ≤ 255
  | 0, [], l, _, h => by simp [rd] at h; subst h; exact ⟨rfl, rfl, fun _ h => by cases h⟩
  | 0, _ :: _, _, _, h => by simp [rd] at h
  | _ + 1, [], _, _, h => by simp [rd] at h
  | c + 1, z :: r, l, hz, h => by
    rw [rd] at h
    split at h
    · cases h
    · rename_i hlt
      obtain ⟨l', h1, rfl⟩ := Option.map_eq_some_iff.1 h
      have hz0 := hz z (List.mem_cons_self ..)
      have hr : ∀ y ∈ r, 0 ≤ y ∧ y < 256 := fun y hy => hz y (List.mem_cons_of_mem _ hy)
      obtain ⟨q1, q2, q3⟩ := fl_rd c _ l' (fun y hy => hr y (List.mem_of_mem_drop hy)) h1
      have hs : (strOfNums (r.take z.toNat)).size = z.toNat := by rw [strOfNums_size, List.length_take]; omega
      refine ⟨by simp [q1], ?_, fun s hs' => ?_⟩
      · rw [fl_cons, hs, strZ_of (fun y hy => hr y (List.mem_of_mem_take hy)), q2, List.take_append_drop]
        congr 1
        omega
      · rcases List.mem_cons.1 hs' with rfl | h'
        · rw [hs]; omega
        · exact q3 s h'
theorem fbZ_fl (ss : List ByteArray) (n : Nat) (hl : ss.length = n) : fbZ ss n n = (n : Int) :: fl ss := by unfold fbZ fl; rw [← hl, List.take_length]
theorem okF_of {ss : List ByteArray} (h : ∀ s ∈ ss, s.size ≤ 255) (n : Nat) : okF ss n = true := by
  unfold okF
  rw [List.all_eq_true]
  exact fun s hs => decide_eq_true (h s (List.mem_of_mem_take hs))
theorem bytes_fb {ss : List ByteArray} {n : Nat} (hn : n ≤ 100) (hs : ∀ s ∈ ss, s.size ≤ 255) : ∀ z ∈ fbZ ss n n, 0 ≤ z ∧ z < 256 := by
  intro z hz
  unfold fbZ at hz
  rcases List.mem_cons.1 hz with rfl | hz
  · omega
  · obtain ⟨l, hl, hzl⟩ := List.mem_flatten.1 hz
    obtain ⟨s, hs', rfl⟩ := List.mem_map.1 hl
    rcases List.mem_cons.1 hzl with rfl | hz'
    · have := hs s (List.mem_of_mem_take hs'); omega
    · obtain ⟨b, _, rfl⟩ := List.mem_map.1 hz'
      have := b.toNat_lt
      omega
/-- What is written is read back. -/
theorem write_read {ss : List ByteArray} {n : Nat} (hl : ss.length = n) (hn : n ≤ 100) (hs : ∀ s ∈ ss, s.size ≤ 255) : errF ss n = 0 ∧ resF ss n = fbZ ss n n ∧ errR (fbZ ss n n) = 0 ∧ resR (fbZ ss n n) = ss := by
  have h0 := err0 (show ¬ 100 < n by omega) (okF_of hs n)
  refine ⟨h0.1, h0.2, ?_⟩
  have hlen := fbZ_len (n := n) n (by omega) (okF_of hs n)
  refine ansR0 (by omega) ?_
  rw [fbZ_fl ss n hl]
  show (if 100 < (n : Int) then none else rd (n : Int).toNat (fl ss)) = some ss
  rw [if_neg (by omega), Int.toNat_natCast, ← hl, rd_fl]
/-- What is read is written back. -/
theorem read_write {zs : List Int} (hz : ∀ z ∈ zs, 0 ≤ z ∧ z < 256) (h : errR zs = 0) : errF (resR zs) (resR zs).length = 0 ∧ resF (resR zs) (resR zs).length = zs ∧ (resR zs).length ≤ 100 ∧ ∀ s ∈ resR zs, s.size ≤ 255 := by
  unfold errR at h
  by_cases h1 : 65536 < zs.length
  · rw [if_pos h1] at h; cases h
  rw [if_neg h1] at h
  have er : resR zs = (okR zs).getD [] := by unfold resR; rw [if_neg h1]
  cases ho : okR zs with
  | none => rw [ho] at h; cases h
  | some l =>
    rw [ho] at er
    simp only [Option.getD_some] at er
    rw [er]
    cases zs with
    | nil => cases ho
    | cons z r =>
      have ho' : (if 100 < z then none else rd z.toNat r) = some l := ho
      by_cases h100 : 100 < z
      · rw [if_pos h100] at ho'; cases ho'
      rw [if_neg h100] at ho'
      have hz0 := hz z (List.mem_cons_self ..)
      obtain ⟨q1, q2, q3⟩ := fl_rd _ _ _ (fun y hy => hz y (List.mem_cons_of_mem _ hy)) ho'
      have h0 := err0 (ss := l) (n := l.length) (by omega) (okF_of q3 _)
      refine ⟨h0.1, ?_, by omega, q3⟩
      rw [h0.2, fbZ_fl l _ rfl, q2]
      congr 1
      omega
theorem own_cap {w : World} {base e size n m cap : Nat} {a : Option Addr} {xs : List Value} (h : w.ownsRow base e size (.slice a m cap) n xs) : m ≤ cap ∧ cap ≤ maxLen := by
  rcases h.2 with ⟨hv, h0⟩ | ⟨g, cap', cur, hv, hb, hg, hnc, hcm, hcs, htake⟩
  · cases hv; exact ⟨Nat.le_refl _, Nat.zero_le _⟩
  · cases hv; exact ⟨hnc, hcm⟩

end Go.Proofs.YtfibdpfhfgnbiaaGreatDoor
namespace Go.Proofs.YtfibdpfhfgnbiaaGreatDoor
open Go Go.RowKit
attribute [local go_sem ↓] Go.wp_at_zero Go.wp_at_succ


def famX (w : World) (z : Obj) (j : Nat) : World := if j % 2 = 0 then w.drewN (j / 2) else (w.alloc z).drewN (j / 2)
theorem famX_cell {w : World} {z : Obj} {b o : Nat} {u : Value} (h : w.cell? ⟨b, o, none⟩ = some u) (j : Nat) : (famX w z j).cell? ⟨b, o, none⟩ = some u := by
  unfold famX
  split
  · exact h
  · exact far6 (below_drewN ((Below.refl _ _).alloc (Nat.le_refl _) _) _) h
theorem famX0 (w : World) (z : Obj) (k : Nat) : ∃ j, w.drewN k = famX w z j := ⟨2 * k, by unfold famX; rw [if_pos (by omega)]; congr 1; omega⟩
theorem famX1 (w : World) (z : Obj) (k : Nat) : ∃ j, (w.alloc z).drewN k = famX w z j := ⟨2 * k + 1, by unfold famX; rw [if_neg (by omega)]; congr 1; omega⟩

end Go.Proofs.YtfibdpfhfgnbiaaGreatDoor
namespace Go.Proofs.YtfibdpfhfgnbiaaGreatDoor
open Go Go.RowKit
attribute [local go_sem ↓] Go.wp_at_zero Go.wp_at_succ


def ofL (ts : List Int) : Int := ts.foldl (fun n z => n * 256 + z) 0
theorem ofL_take {ts : List Int} {k : Nat} (h : k < ts.length) : ofL (ts.take (k + 1)) = ofL (ts.take k) * 256 + ts.getD k 0 := by
  unfold ofL
  rw [List.take_succ_eq_append_getElem h, List.foldl_append, List.getD_eq_getElem?_getD, List.getElem?_eq_getElem h]
  rfl
theorem ofL_bd {ts : List Int} (hz : ∀ z ∈ ts, 0 ≤ z ∧ z < 256) : ∀ k, k ≤ ts.length → 0 ≤ ofL (ts.take k) ∧ ofL (ts.take k) < 256 ^ k
  | 0, _ => by simp [ofL]
  | k + 1, h => by
    have h1 := ofL_bd hz k (by omega)
    have h2 := hz (ts.getD k 0) (by rw [List.getD_eq_getElem?_getD, List.getElem?_eq_getElem (by omega)]; exact List.getElem_mem _)
    rw [ofL_take (by omega), Int.pow_succ]
    omega
set_option maxRecDepth 100000 in
set_option maxHeartbeats 2000000 in
theorem c_of (ts : List Int) (w : World) (hz : ∀ z ∈ ts, 0 ≤ z ∧ z < 256) (hn : ts.length ≤ 4) :
    Calls Tryz.prog 267 #[.string (strOfNums ts)] w fun e w' => e = .returned (.int .i64 (ofL ts)) ∧ w' = w := by
  obtain ⟨t, ht⟩ : ∃ t, t = strOfNums ts := ⟨_, rfl⟩
  rw [← ht]
  have hts : t.size = ts.length := by rw [ht, strOfNums_size]
  have HG : Hid (∀ p (h : p < t.size), ((t[p]'h).toNat : Int) = ts.getD p 0) := by
    intro p h; subst ht; exact son_get hz h
  have HZ : Hid (∀ z ∈ ts, 0 ≤ z ∧ z < 256) := hz
  have HTS : Hid (t.size = ts.length) := hts
  have hn4 : t.size ≤ 4 := by omega
  clear ht hz hts hn
  go_enter Tryz.func267, Tryz.ntmps267
  go_wp2
  go_loop [3, 4] (fun m i => ∃ k : Nat, k ≤ t.size ∧ i = .int .i64 k ∧ m = .int .i64 (ofL (ts.take k))) (fun _ i => t.size - (intOf i).toNat)
  case atStart => exact ⟨0, by omega, rfl, rfl⟩
  case round =>
    obtain ⟨k, hk, rfl, rfl⟩ := hrel
    obtain ⟨m, hm⟩ : ∃ m, m = ofL (ts.take k) := ⟨_, rfl⟩
    rw [← hm]
    have hmb : 0 ≤ m ∧ m < 4294967296 := by
      have h1 := ofL_bd HZ.out k (by have := HTS.out; omega)
      rw [← hm] at h1
      have hk4 : k = 0 ∨ k = 1 ∨ k = 2 ∨ k = 3 ∨ k = 4 := by omega
      rcases hk4 with rfl | rfl | rfl | rfl | rfl <;> simp at h1 <;> omega
    have HM : Hid (m = ofL (ts.take k)) := hm
    clear hm
    by_cases hlt : k < t.size
    · obtain ⟨z, hz⟩ : ∃ z : Int, z = ((t[k]'hlt).toNat : Int) := ⟨_, rfl⟩
      have hzb : 0 ≤ z ∧ z < 256 := by rw [hz]; have := (t[k]'hlt).toNat_lt; omega
      have HS : Hid (ofL (ts.take (k + 1)) = m * 256 + z) := by unfold Hid; rw [ofL_take (by have := HTS.out; omega), HM.out, ← HG.out k hlt, hz]
      have hix : ∀ wx : World, (Instr.index 9 (.string t) (.int .i64 (k : Int))).run Tryz.prog wx = .ok (.int .u8 z) wx := fun wx => by
        rw [run_index_string _ _ _ _ _ Tryz.underlying9, hz]
        simp [hlt]
      clear hz
      go_wp2
      go_round
      case rel => exact ⟨k + 1, by omega, by go_num, by rw [HS.out]⟩
      case measure => simp [intOf]; omega
    · have e : k = t.size := by omega
      have E : Hid (m = ofL ts) := by unfold Hid; rw [HM.out, List.take_of_length_le (by have := HTS.out; omega)]
      clear e
      go_wp2
      go_ret
      exact ⟨ret_int E.out, rfl⟩
theorem of_sum {zs : List Int} (h4 : 4 ≤ zs.length) (hz : ∀ z ∈ zs, 0 ≤ z ∧ z < 256) : (((Crc.crc (headZ zs) : Nat) : Int) != ofL (tailZ zs)) = !unsB zs := by
  obtain ⟨t0, t1, t2, t3, ht, e0, e1, e2, e3⟩ := tail4 h4
  have hb : ∀ z ∈ tailZ zs, 0 ≤ z ∧ z < 256 := fun z h => hz z (List.mem_of_mem_drop h)
  rw [ht] at hb
  have b0 := hb t0 (by simp)
  have b1 := hb t1 (by simp)
  have b2 := hb t2 (by simp)
  have b3 := hb t3 (by simp)
  have hc := crc_lt (headZ zs) (head_bytes hz)
  have hl : ofL (tailZ zs) = ((t0 * 256 + t1) * 256 + t2) * 256 + t3 := by rw [ht]; simp [ofL]
  generalize hC : Crc.crc (headZ zs) = C at hc
  by_cases h : ((C : Nat) : Int) = ofL (tailZ zs)
  · have : unsB zs = true := uns_yes h4 (by
      rw [hC, ht]
      rw [hl] at h
      unfold sumZ
      congr 1; omega
      congr 1; omega
      congr 1; omega
      congr 1; omega)
    rw [this]; simp [h]
  · have : unsB zs = false := uns_no (fun e => h (by
      rw [hC, ht] at e
      simp [sumZ] at e
      rw [hl]
      omega))
    rw [this]; simp [h]
def unsT (zs : List Int) (u : Bool) : ByteArray := if u then strOfNums (headZ zs) else ⟨#[]⟩
theorem conv_rd {W : World} {zs : List Int} {c : Nat} {fr : Nat × Nat} (hz : ∀ z ∈ zs, 0 ≤ z ∧ z < 256) : Rd (W.alloc (.cells (bytesRow (strOfNums zs) c) 5 fr)).drew.drew (some ⟨W.heap.size, 0, none⟩) zs.length zs := by
  refine ⟨rfl, hz, fun h => ⟨W.heap.size, 0, rfl, fun i hi => ?_⟩⟩
  have hb : (W.alloc (.cells (bytesRow (strOfNums zs) c) 5 fr)).drew.drew.heap[W.heap.size]? = some (.cells (bytesRow (strOfNums zs) c) 5 fr) := by
    show (W.heap.push _)[W.heap.size]? = _
    simp
  have hsz : i < (strOfNums zs).data.size := by have := strOfNums_size zs; rw [ByteArray.size] at this; omega
  rw [Nat.zero_add, cell_of_row _ W.heap.size i _ 5 fr hb, bytesRow_at _ _ _ hsz]
  have hs2 : i < (strOfNums zs).size := by rw [strOfNums_size]; exact hi
  exact congrArg (fun z => some (Value.int .u8 z)) (son_get (p := i) hz hs2)
theorem headZ_len {zs : List Int} : (headZ zs).length = zs.length - 4 := by unfold headZ; rw [List.length_take]; omega
theorem cut_head {zs : List Int} : (strOfNums zs).extract 0 (zs.length - 4) = strOfNums (headZ zs) := by rw [son_cut]; rfl
theorem cut_tail {zs : List Int} : (strOfNums zs).extract (zs.length - 4) zs.length = strOfNums (tailZ zs) := by
  rw [son_cut]
  unfold tailZ
  rw [List.take_of_length_le (by rw [List.length_drop]; omega)]
theorem c_unsealS_lo (zs : List Int) (w : World) (h4 : zs.length < 4) :
    Calls Tryz.prog 265 #[.string (strOfNums zs)] w fun e w' => e = .returned (.tuple #[.string ⟨#[]⟩, .bool false]) ∧ ∃ q, w' = w.drewN q := by
  obtain ⟨t, ht⟩ : ∃ t, t = strOfNums zs := ⟨_, rfl⟩
  rw [← ht]
  have hts : t.size = zs.length := by rw [ht, strOfNums_size]
  have z0 : (t.size : Int) - 4 < 0 := by omega
  have z1 : (t.size : Int) < 4 := by omega
  clear ht hts h4
  go_enter Tryz.func265, Tryz.ntmps265
  go_wp2_with fail
  go_quiet (fail)
  go_wp2
  go_ret2
  exact ⟨rfl, _, rfl⟩

end Go.Proofs.YtfibdpfhfgnbiaaGreatDoor
namespace Go.Proofs.YtfibdpfhfgnbiaaGreatDoor
open Go Go.RowKit
attribute [local go_sem ↓] Go.wp_at_zero Go.wp_at_succ


set_option maxRecDepth 100000 in
set_option maxHeartbeats 2000000 in
theorem c_sealed (base g L cv : Nat) (zs : List Int) (w : World) (hown : w.ownsRow base 5 1 (.slice (some ⟨g, 0, none⟩) L cv) L (zs.map (Value.int .u8))) (hbase : base ≤ w.heap.size) (hz : ∀ z ∈ zs, 0 ≤ z ∧ z < 256) (hL : L ≤ 60000) (C : Int) (hC : C = (Crc.crc zs : Nat)) :
    Calls Tryz.prog 262 #[.slice (some ⟨g, 0, none⟩) L cv] w fun e w' => (∃ a' c', e = .returned (.slice a' (L + 4) c') ∧ w'.ownsRow base 5 1 (.slice a' (L + 4) c') (L + 4) ((zs ++ sumZ C).map (Value.int .u8))) ∧ Below base w w' := by
  obtain ⟨i0, g9, g90, g91, g92⟩ := info_parts infoB
  have hi : Hid (Tryz.prog.info? 5 = some i0) := g9
  have hz0 : Hid (i0.zero = some (.int .u8 0)) := g90
  have hz1 : Hid (i0.size = 1) := g91
  have hz2 : Hid (i0.bytes = 1) := g92
  clear g9 g90 g91 g92
  have hl := crc_lt zs hz
  have hC0 : 0 ≤ C := by omega
  have hC1 : C < 4294967296 := by omega
  have HO : Hid (w.ownsRow base 5 1 (.slice (some ⟨g, 0, none⟩) L cv) L (zs.map (Value.int .u8))) := hown
  have CK : Hid (Calls Tryz.prog 296 #[.slice (some ⟨g, 0, none⟩) L cv] w fun e w' => e = .returned (.int .i64 C) ∧ w' = w) := by
    rw [hC]
    exact c14 _ L cv zs w (rd_of_V (RdV.own hown) hz) (by omega)
  clear hown hz hl hC
  go_enter Tryz.func262, Tryz.ntmps262
  go_wp2_with fail
  refine CK.out.mono ?_
  rintro e w1 ⟨rfl, hq⟩
  have hq' := hq.symm
  subst hq'
  clear hq CK
  go_wp2_with fail
  refine (c_num4 C w hC0 hC1).mono ?_
  rintro e w2 ⟨g2, c2, rfl, o2, hb⟩
  have B2 : Hid (Below w.heap.size w w2) := hb
  have O2 : Hid (w2.ownsRow w.heap.size 5 1 (.slice (some ⟨g2, 0, none⟩) 4 c2) 4 ((sumZ C).map (Value.int .u8))) := o2
  have HO2 : Hid (w2.ownsRow base 5 1 (.slice (some ⟨g, 0, none⟩) L cv) L (zs.map (Value.int .u8))) := own_below HO.out hb
  have hg : base ≤ g ∧ g < w.heap.size := HO.out.lt g rfl
  clear hb o2 HO
  have q12 := B2.out.size
  go_wp2_with (
    at_builtin; refine app_any _ rfl (.tmp 3) (.tmp 6) 237 rfl base 5 i0 (.int .u8 0) 1 1 Tryz.underlying237 hi.out hz0.out hz1.out hz2.out rfl (by omega) (.slice (some ⟨g, 0, none⟩) L cv) L (zs.map (Value.int .u8)) rfl HO2.out (some ⟨g2, 0, none⟩) 4 c2 ((sumZ C).map (Value.int .u8)) rfl (fun h => by cases h) rfl (fun ad e => by cases e; exact O2.out.cells rfl) (map_one _ (fun _ => rfl) _) (by unfold maxLen; omega) (by omega) (by omega) ?_
    intro a3 c3 w3 ho hg0 hk0
    have hgg : w2.grownBy w3 (some g) := hg0
    have B3 : Hid (Below base w w3) := (B2.out.mono hbase).grown hgg (by omega) (fun k h => by cases h; exact hg.1)
    have O3 : Hid (w3.ownsRow base 5 1 (.slice a3 (L + 4) c3) (L + 4) ((zs ++ sumZ C).map (Value.int .u8))) := by unfold Hid; rw [List.map_append]; exact ho
    clear ho hg0 hk0 hgg)
  go_ret
  exact ⟨⟨a3, c3, rfl, O3.out⟩, B3.out⟩

end Go.Proofs.YtfibdpfhfgnbiaaGreatDoor
