/-
  The specification's l09Build, of one key or more.
-/
import Derived.Test.YthnggpjgajkaeaaZQb
import Derived.Deep.RegionWith
import Derived.Deep.AppendLies
import Derived.Deep.RegionLawGrows
import Derived.Deep.CutRange
namespace Go.Proofs.Ythnggpjgajkaeaa
open Go Go.RowKit
attribute [local go_sem ↓] Go.wp_at_zero Go.wp_at_succ

theorem own_cross {X Y : World} {base base' e e' n c m c' : Nat} {a a' : Option Addr} {xs ys : List Value} (h : X.ownsRow base e 1 (.slice a n c) n xs) (h' : X.ownsRow base' e' 1 (.slice a' m c') m ys) (hg : X.grownBy Y (ob a')) (hne : e' ≠ e) : Y.ownsRow base e 1 (.slice a n c) n xs :=
  own_same h fun g eg => by
    rw [ob_slice] at eg
    obtain ⟨cs, x⟩ := own_box h eg
    exact hg.block g (own_blk h g eg).2 (fun ex => own_neT h' x hne ex.symm)
def lenV : Value → Nat
  | .slice _ n _ => n
  | _ => 0
def intV (i : Nat) : Value := .int .i64 (i : Int)
theorem own_emptyE {w V : World} {e : TypeId} (h : w.heap.size ≤ V.heap.size) (size : Nat := 1) : (V.alloc (.cells #[] e)).ownsRow w.heap.size e size (.slice (some ⟨V.heap.size, 0, none⟩) 0 0) 0 [] := World.ownsRow_lit V #[] 0 h (by unfold maxLen; omega) (by simp)
set_option maxRecDepth 100000 in
set_option maxHeartbeats 60000000 in
theorem c_build (a : Option Addr) (n c : Nat) (keys : List ByteArray) (w : World) (h0 : 0 < n) (hn : n ≤ 61) (hnc : n ≤ c) (hc : c ≤ 9223372036854775807) (hr : RdV w a n (keys.map Value.string)) :
    Calls Try.prog 50 #[.slice a n c] w fun e w' => AnsTr w keys e w' ∧ Below w.heap.size w w' := by
  obtain ⟨iN, hi, hz0, hz1, hz2⟩ := info_parts infoN
  have HI : Hid (Try.prog.info? 72 = some iN) := hi
  have HZ0 : Hid (iN.zero = some (Value.agg #[.bool false, .slice none 0 0, .slice none 0 0])) := hz0
  have HZ1 : Hid (iN.size = 3) := hz1
  have HZ2 : Hid (iN.bytes = 56) := hz2
  clear hi hz0 hz1 hz2
  obtain ⟨iS, hi, hz0, hz1, hz2⟩ := info_parts infoS1
  have JI : Hid (Try.prog.info? 9 = some iS) := hi
  have JZ0 : Hid (iS.zero = some (.string ⟨#[]⟩)) := hz0
  have JZ1 : Hid (iS.size = 1) := hz1
  have JZ2 : Hid (iS.bytes = 16) := hz2
  clear hi hz0 hz1 hz2
  obtain ⟨iI, hi, hz0, hz1, hz2⟩ := info_parts infoI1
  have II : Hid (Try.prog.info? 3 = some iI) := hi
  have IZ0 : Hid (iI.zero = some (.int .i64 0)) := hz0
  have IZ1 : Hid (iI.size = 1) := hz1
  have IZ2 : Hid (iI.bytes = 8) := hz2
  clear hi hz0 hz1 hz2
  have hkl : keys.length = n := by have := hr.1; rwa [List.length_map] at this
  have HKL : Hid (keys.length = n) := hkl
  obtain ⟨kb, ko, rfl, hkb, hkc⟩ := hr.2 h0
  have HKC : Hid (∀ i, i < n → w.cell? ⟨kb, ko + i, none⟩ = (keys.map Value.string)[i]?) := hkc
  have HKB : Hid (kb < w.heap.size) := hkb
  obtain ⟨P, hP⟩ : ∃ P, parts 4 n n = P := ⟨_, rfl⟩
  have HPat : Hid (∀ j, (P.take j).sum < n → P[j]? = some (part 4 (n - (P.take j).sum))) := by
    rw [← hP]; exact parts_at (by omega) n n (Nat.le_refl _)
  have HPpos : Hid (∀ d ∈ P, 0 < d ∧ d ≤ 4) := by rw [← hP]; exact parts_pos (by omega) n n
  have HPs : Hid (P.sum = n) := by rw [← hP]; exact parts_sum (by omega) n n (Nat.le_refl _)
  have HPl : Hid (P.length ≤ n) := by rw [← hP]; exact parts_len 4 n n
  have HPP : Hid (leafP keys.length = P) := by rw [← hP, hkl]; exact leafP_some h0
  clear hkl hkc hkb hr hP
  obtain ⟨V0, hV0⟩ : ∃ Q, w.alloc (.cells #[.int .i64 0, .slice none 0 0] 27) = Q := ⟨_, rfl⟩
  have S0 : V0.heap.size = w.heap.size + 1 := by rw [← hV0]; simp
  have b0 : Below w.heap.size w V0 := by rw [← hV0]; exact (Below.refl _ _).alloc (Nat.le_refl _) _
  have x0 : Box V0 w.heap.size 27 #[.int .i64 0, .slice none 0 0] := by rw [← hV0]; exact Box.new _ _ _
  obtain ⟨V1, hV1⟩ : ∃ Q, V0.alloc (.cells #[] 72) = Q := ⟨_, rfl⟩
  have S1 : V1.heap.size = w.heap.size + 2 := by rw [← hV1]; simp [S0]
  have b1 : Below V0.heap.size V0 V1 := by rw [← hV1]; exact (Below.refl _ _).alloc (Nat.le_refl _) _
  have o1 : V1.ownsRow w.heap.size 72 3 (.slice (some ⟨w.heap.size + 1, 0, none⟩) 0 0) 0 [] := by rw [← hV1, ← S0]; exact own_emptyE b0.size 3
  obtain ⟨V2, hV2⟩ : ∃ Q, V1.alloc (.cells #[.int .i64 0, .slice (some ⟨w.heap.size + 1, 0, none⟩) 0 0] 27) = Q := ⟨_, rfl⟩
  have S2 : V2.heap.size = w.heap.size + 3 := by rw [← hV2]; simp [S1]
  have b2 : Below V1.heap.size V1 V2 := by rw [← hV2]; exact (Below.refl _ _).alloc (Nat.le_refl _) _
  have x2 : Box V2 (w.heap.size + 2) 27 #[.int .i64 0, .slice (some ⟨w.heap.size + 1, 0, none⟩) 0 0] := by rw [← hV2, ← S1]; exact Box.new _ _ _
  obtain ⟨V3, hV3⟩ : ∃ Q, V2.alloc (.cells #[] 3) = Q := ⟨_, rfl⟩
  have S3 : V3.heap.size = w.heap.size + 4 := by rw [← hV3]; simp [S2]
  have b3 : Below V2.heap.size V2 V3 := by rw [← hV3]; exact (Below.refl _ _).alloc (Nat.le_refl _) _
  have o3 : V3.ownsRow w.heap.size 3 1 (.slice (some ⟨w.heap.size + 3, 0, none⟩) 0 0) 0 [] := by rw [← hV3, ← S2]; exact own_emptyE (by omega)
  obtain ⟨V4, hV4⟩ : ∃ Q, V3.alloc (.cells #[] 9) = Q := ⟨_, rfl⟩
  have b4 : Below V3.heap.size V3 V4 := by rw [← hV4]; exact (Below.refl _ _).alloc (Nat.le_refl _) _
  have o4 : V4.ownsRow w.heap.size 9 1 (.slice (some ⟨w.heap.size + 4, 0, none⟩) 0 0) 0 [] := by rw [← hV4, ← S3]; exact own_emptyE (by omega)
  have S4 : V4.heap.size = w.heap.size + 5 := by rw [← hV4]; simp [S3]
  have BE4 : Below w.heap.size w V4 := b0.trans ((b1.trans ((b2.trans ((b3.trans (b4.mono b3.size)).mono b2.size)).mono b1.size)).mono b0.size)
  have BT : Hid (BuSt w V4 w.heap.size (w.heap.size + 2) 0 (some ⟨w.heap.size + 1, 0, none⟩) 0 [] (fun _ => w.heap.size) []) :=
    ⟨rfl, (x2.belowS b3).belowS b4, own_below (own_below (own_below o1 b2) b3) b4, ⟨fun i h => absurd h (by simp), fun i h => absurd h (by simp)⟩, Nat.le_refl _, BE4.size, rfl, (((x0.belowS b1).belowS b2).belowS b3).belowS b4, BE4⟩
  have L3 : Hid (LsT V4 w.heap.size 3 (some ⟨w.heap.size + 3, 0, none⟩) 0 0 [] []) := ⟨own_below o3 b4, fun v hv => by cases hv⟩
  have L4 : Hid (LsT V4 w.heap.size 9 (some ⟨w.heap.size + 4, 0, none⟩) 0 0 [] []) := ⟨o4, fun v hv => by cases hv⟩
  clear b0 b1 b2 b3 b4 x0 x2 o1 o3 o4 BE4
  go_enter Try.func50, Try.ntmps50
  go_wp2_with fail
  obtain ⟨tb, htb⟩ : ∃ tb, w.heap.size + 2 = tb := ⟨_, rfl⟩
  have TB : Hid (w.heap.size + 2 = tb) := htb
  rw [htb] at BT
  rw [htb]
  clear hV0 hV1 hV2 hV3 hV4 S0 S1 S2 S3 S4 htb
  go_loopw [4, 5, 6] (fun lv ls i wr => ∃ (j p : Nat) (vs : List TNode) (na : Option Addr) (nc : Nat) (bs : Nat → Nat) (la : Option Addr) (lc : Nat) (sa : Option Addr) (sc : Nat), j ≤ P.length ∧ Hid ((P.take j).sum = p) ∧ i = .int .i64 (p : Int) ∧ lv = .slice la j lc ∧ ls = .slice sa j sc ∧ Hid (BuSt w wr w.heap.size tb j na nc vs bs (((leafL P keys).map sayB).take j)) ∧ Hid (LsT wr w.heap.size 3 la j lc ((List.range j).map intV) vs) ∧ Hid (LsT wr w.heap.size 9 sa j sc (((upM P keys).take j).map Value.string) vs)) (fun _ _ i _ => n - (intOf i).toNat)
  case atStart => exact ⟨0, 0, [], _, 0, _, _, 0, _, 0, Nat.zero_le _, rfl, rfl, rfl, rfl, BT.out, L3.out, L4.out⟩
  case round =>
    obtain ⟨j, p, vs, na, nc, bs, la, lc, sa, sc, hj, HPJ, rfl, rfl, rfl, HB, HL, HS⟩ := hrel
    rename World => wr
    by_cases hlt : p < n
    · have hd := HPat.out j (by rw [HPJ.out]; exact hlt)
      rw [HPJ.out] at hd
      obtain ⟨d, hdd⟩ : ∃ d, part 4 (n - p) = d := ⟨_, rfl⟩
      rw [hdd] at hd
      have CP := fun W => c_part (n - p) 4 W (by omega) (by omega) (by omega)
      have hd4 := HPpos.out d (List.mem_of_getElem? hd)
      have hpd : p + d ≤ n := by have := sum_at P j d hd; rw [HPJ.out, HPs.out] at this; exact this
      have HD : Hid (P[j]? = some d) := hd
      have hnp : ((n - p : Nat) : Int) = (n : Int) - (p : Int) := by omega
      rw [hdd, hnp] at CP
      have hlt' : (p : Int) < (n : Int) := by omega
      have q0 : (0 : Int) ≤ (p : Int) := by omega
      have q1 : (p : Int) ≤ (p : Int) + (d : Int) := by omega
      have q2 : (p : Int) + (d : Int) ≤ (c : Int) := by omega
      have q3 : ((p : Int) + (d : Int)).toNat = p + d := by omega
      have q4 : ¬ (c = p) := by omega
      have q5 : IntKind.i64.wrap ((p : Int) + (d : Int)) = (p : Int) + (d : Int) := by rw [IntKind.wrap_i64]; omega
      have tb1 : wr.cell? ⟨tb, 1, none⟩ = some (.slice na j nc) := HB.out.box.cell 1
      clear hd hnp hdd
      go_wp2_with fail
      refine (CP wr).mono ?_
      rintro e w' ⟨rfl, hq⟩; have hq' := hq.symm; subst hq'; clear hq CP
      go_wp2_with fail
      have hj61 : j ≤ 61 := by have := HPl.out; omega
      have HPK : Hid (∀ U, Below wr.heap.size wr U → ∀ i u, (((keys.drop p).take d).map Value.string)[i]? = some u → U.cell? ((⟨kb, ko + p, none⟩ : Addr).add i) = some u) := by
        intro U hU i u hu
        have hi : i < d := by have := (List.getElem?_eq_some_iff.1 hu).1; rw [List.length_map, List.length_take] at this; omega
        rw [addr_add, Nat.add_assoc]
        rw [(HB.out.bel.trans (hU.mono HB.out.bel.size)).cell (p := ⟨kb, ko + (p + i), none⟩) HKB.out, HKC.out (p + i) (by omega)]
        rw [List.getElem?_map, List.getElem?_take_of_lt hi, List.getElem?_drop] at hu
        rw [List.getElem?_map]; exact hu
      have HPN : Hid ((((keys.drop p).take d).map Value.string).length = d * 1) := by unfold Hid; rw [List.length_map, List.length_take, List.length_drop, HKL.out]; omega
      have HP1 : Hid (∀ u ∈ ((keys.drop p).take d).map Value.string, u.oneCell' = true) := map_one _ (fun _ => rfl) _
      have HSAY : Hid ((((leafL P keys).map sayB).take j) ++ [(true, (keys.drop p).take d, ([] : List Int))] = ((leafL P keys).map sayB).take (j + 1)) := by
        unfold Hid
        rw [List.take_add_one, List.getElem?_map, leafL_at HD.out, HPJ.out]; rfl
      go_cut [] from 29 to 42 (fun W => ∃ (l2 : Option Addr) (lc2 : Nat) (v : TNode) (bs' : Nat → Nat), Hid (BuSt w W w.heap.size tb (j + 1) l2 lc2 (vs ++ [v]) bs' (((leafL P keys).map sayB).take (j + 1))) ∧ Hid (LsT W w.heap.size 3 la j lc ((List.range j).map intV) (vs ++ [v])) ∧ Hid (LsT W w.heap.size 9 sa j sc (((upM P keys).take j).map Value.string) (vs ++ [v])))
      case first =>
        obtain ⟨U1, hU1⟩ : ∃ U, wr.drew.alloc (.cells #[] 9) = U := ⟨_, rfl⟩
        obtain ⟨U2, hU2⟩ : ∃ U, wr.drew.alloc (.cells #[] 3) = U := ⟨_, rfl⟩
        have S1 : U1.heap.size = wr.heap.size + 1 := by rw [← hU1]; simp
        have S2 : U2.heap.size = wr.heap.size + 1 := by rw [← hU2]; simp
        obtain ⟨U12, hU12⟩ : ∃ U, U1.alloc (.cells #[] 3) = U := ⟨_, rfl⟩
        obtain ⟨U21, hU21⟩ : ∃ U, U2.alloc (.cells #[] 9) = U := ⟨_, rfl⟩
        have b1 : Below wr.heap.size wr U1 := by rw [← hU1]; exact (Below.refl _ _).drew.alloc (Nat.le_refl _) _
        have b2 : Below wr.heap.size wr U2 := by rw [← hU2]; exact (Below.refl _ _).drew.alloc (Nat.le_refl _) _
        have b12 : Below wr.heap.size wr U12 := by rw [← hU12]; exact b1.alloc b1.size _
        have b21 : Below wr.heap.size wr U21 := by rw [← hU21]; exact b2.alloc b2.size _
        have O1 : Hid (U1.ownsRow wr.heap.size 9 1 (.slice (some ⟨wr.heap.size, 0, none⟩) 0 0) 0 []) := by unfold Hid; rw [← hU1]; exact own_emptyE (V := wr.drew) (Nat.le_refl _)
        have O12 : Hid (U12.ownsRow wr.heap.size 9 1 (.slice (some ⟨wr.heap.size, 0, none⟩) 0 0) 0 []) := by unfold Hid; rw [← hU12]; exact own_below O1.out ((Below.refl _ _).alloc (Nat.le_refl _) _)
        have K12 : Hid (U12.ownsRow wr.heap.size 3 1 (.slice (some ⟨wr.heap.size + 1, 0, none⟩) 0 0) 0 []) := by unfold Hid; rw [← hU12, ← S1]; exact own_emptyE b1.size
        have K2 : Hid (U2.ownsRow wr.heap.size 3 1 (.slice (some ⟨wr.heap.size, 0, none⟩) 0 0) 0 []) := by unfold Hid; rw [← hU2]; exact own_emptyE (V := wr.drew) (Nat.le_refl _)
        have K21 : Hid (U21.ownsRow wr.heap.size 3 1 (.slice (some ⟨wr.heap.size, 0, none⟩) 0 0) 0 []) := by unfold Hid; rw [← hU21]; exact own_below K2.out ((Below.refl _ _).alloc (Nat.le_refl _) _)
        have O21 : Hid (U21.ownsRow wr.heap.size 9 1 (.slice (some ⟨wr.heap.size + 1, 0, none⟩) 0 0) 0 []) := by unfold Hid; rw [← hU21, ← S2]; exact own_emptyE b2.size
        have c1 : U1.cell? ⟨tb, 1, none⟩ = some (.slice na j nc) := far6 b1 tb1
        have c2 : U2.cell? ⟨tb, 1, none⟩ = some (.slice na j nc) := far6 b2 tb1
        have c12 : U12.cell? ⟨tb, 1, none⟩ = some (.slice na j nc) := far6 b12 tb1
        have c21 : U21.cell? ⟨tb, 1, none⟩ = some (.slice na j nc) := far6 b21 tb1
        have B1 : Hid (Below wr.heap.size wr U1) := b1
        have B12 : Hid (Below wr.heap.size wr U12) := b12
        have B21 : Hid (Below wr.heap.size wr U21) := b21
        clear b1 b2 b12 b21 K2
        go_region_law (first
          | (refine step_app_any _ (by rfl) (.tmp 31) (.tmp 37) 23 (by rfl) wr.heap.size 9 iS (.string ⟨#[]⟩) 1 16 Try.underlying23 JI.out JZ0.out JZ1.out JZ2.out rfl (by omega) (.slice (some ⟨wr.heap.size, 0, none⟩) 0 0) 0 [] (by rfl) O1.out (some ⟨kb, ko + p, none⟩) d (c - p) (((keys.drop p).take d).map Value.string) (by rfl) (fun ex => by cases ex) HPN.out (fun ad e => by cases e; exact HPK.out _ B1.out) HP1.out (by unfold maxLen; omega) (by omega) B1.out.size ?_
             intro l5 c5 w5 ho5 hg5 hx5
             rw [Nat.zero_add, List.nil_append] at ho5
             have b5 : Below wr.heap.size wr w5 := B1.out.grown hg5 B1.out.size (fun g e => by have h : wr.heap.size = g := Option.some.inj e; omega)
             obtain ⟨Y, hY⟩ : ∃ Y, w5.alloc (.cells #[] 3) = Y := ⟨_, rfl⟩
             have b5Y : Below w5.heap.size w5 Y := by rw [← hY]; exact (Below.refl _ _).alloc (Nat.le_refl _) _
             have bY : Below wr.heap.size wr Y := b5.trans (b5Y.mono b5.size)
             have oK : Y.ownsRow wr.heap.size 3 1 (.slice (some ⟨w5.heap.size, 0, none⟩) 0 0) 0 [] := by rw [← hY]; exact own_emptyE b5.size
             have oS : Y.ownsRow wr.heap.size 9 1 (.slice l5 d c5) d (((keys.drop p).take d).map Value.string) := own_below ho5 b5Y
             have c5Y : w5.cell? ⟨tb, 1, none⟩ = some (.slice na j nc) := far6 b5 tb1
             obtain ⟨v, hv⟩ : ∃ v : TNode, v = ⟨true, l5, d, c5, (keys.drop p).take d, some ⟨w5.heap.size, 0, none⟩, 0, 0, []⟩ := ⟨_, rfl⟩
             obtain ⟨VA, hVA⟩ : ∃ VA, Y.alloc (.cells #[.bool true, .slice l5 d c5, .slice (some ⟨w5.heap.size, 0, none⟩) 0 0] 72) = VA := ⟨_, rfl⟩
             have bYA : Below Y.heap.size Y VA := by rw [← hVA]; exact (Below.refl _ _).alloc (Nat.le_refl _) _
             have XA : Hid (Box VA Y.heap.size 72 #[.bool v.lf, .slice v.ka v.kn v.kc, .slice v.ia v.im v.ic]) := by unfold Hid; rw [hv, ← hVA]; exact Box.new _ _ _
             have BA : Hid (Below wr.heap.size wr VA) := bY.trans (bYA.mono bY.size)
             have OV : Hid (OwnN1 VA wr.heap.size VA.heap.size v) := by
               rw [hv]
               have o1 := own_below oS bYA
               have o2 := own_below oK bYA
               exact ⟨o1, o2, own_blk o1, own_blk o2⟩
             have SVV : Hid (saysN v = (true, (keys.drop p).take d, ([] : List Int))) := by rw [hv]; rfl
             have OA : Hid (VA.ownsRow w.heap.size 72 3 (.slice na j nc) j (cellsN vs)) := (HB.out.below BA.out).row
             have SA : w.heap.size ≤ VA.heap.size := (HB.out.below BA.out).bel.size
             have cY : Y.cell? ⟨tb, 1, none⟩ = some (.slice na j nc) := far6 bY tb1
             have cA : VA.cell? ⟨tb, 1, none⟩ = some (.slice na j nc) := far6 BA.out tb1
             clear hv oK oS bYA bY ho5 hg5 hx5 b5)
          | (refine step_app_any _ (by rfl) (.tmp 31) (.tmp 37) 23 (by rfl) wr.heap.size 9 iS (.string ⟨#[]⟩) 1 16 Try.underlying23 JI.out JZ0.out JZ1.out JZ2.out rfl (by omega) (.slice (some ⟨wr.heap.size, 0, none⟩) 0 0) 0 [] (by rfl) O12.out (some ⟨kb, ko + p, none⟩) d (c - p) (((keys.drop p).take d).map Value.string) (by rfl) (fun ex => by cases ex) HPN.out (fun ad e => by cases e; exact HPK.out _ B12.out) HP1.out (by unfold maxLen; omega) (by omega) B12.out.size ?_
             intro l5 c5 Y ho5 hg5 hx5
             rw [Nat.zero_add, List.nil_append] at ho5
             have b5 : Below wr.heap.size wr Y := B12.out.grown hg5 B12.out.size (fun g e => by have h : wr.heap.size = g := Option.some.inj e; omega)
             have bY := b5
             have oK : Y.ownsRow wr.heap.size 3 1 (.slice (some ⟨wr.heap.size + 1, 0, none⟩) 0 0) 0 [] := own_same K12.out fun g e => by have h : wr.heap.size + 1 = g := Option.some.inj e; subst h; exact hg5.block _ (own_blk K12.out _ rfl).2 (fun ex => by have h : _ = wr.heap.size := Option.some.inj ex; omega)
             have oS := ho5
             obtain ⟨v, hv⟩ : ∃ v : TNode, v = ⟨true, l5, d, c5, (keys.drop p).take d, some ⟨wr.heap.size + 1, 0, none⟩, 0, 0, []⟩ := ⟨_, rfl⟩
             obtain ⟨VA, hVA⟩ : ∃ VA, Y.alloc (.cells #[.bool true, .slice l5 d c5, .slice (some ⟨wr.heap.size + 1, 0, none⟩) 0 0] 72) = VA := ⟨_, rfl⟩
             have bYA : Below Y.heap.size Y VA := by rw [← hVA]; exact (Below.refl _ _).alloc (Nat.le_refl _) _
             have XA : Hid (Box VA Y.heap.size 72 #[.bool v.lf, .slice v.ka v.kn v.kc, .slice v.ia v.im v.ic]) := by unfold Hid; rw [hv, ← hVA]; exact Box.new _ _ _
             have BA : Hid (Below wr.heap.size wr VA) := bY.trans (bYA.mono bY.size)
             have OV : Hid (OwnN1 VA wr.heap.size VA.heap.size v) := by
               rw [hv]
               have o1 := own_below oS bYA
               have o2 := own_below oK bYA
               exact ⟨o1, o2, own_blk o1, own_blk o2⟩
             have SVV : Hid (saysN v = (true, (keys.drop p).take d, ([] : List Int))) := by rw [hv]; rfl
             have OA : Hid (VA.ownsRow w.heap.size 72 3 (.slice na j nc) j (cellsN vs)) := (HB.out.below BA.out).row
             have SA : w.heap.size ≤ VA.heap.size := (HB.out.below BA.out).bel.size
             have cY : Y.cell? ⟨tb, 1, none⟩ = some (.slice na j nc) := far6 bY tb1
             have cA : VA.cell? ⟨tb, 1, none⟩ = some (.slice na j nc) := far6 BA.out tb1
             clear hv oK oS bYA bY ho5 hg5 hx5 b5)
          | (refine step_app_any _ (by rfl) (.tmp 31) (.tmp 37) 23 (by rfl) wr.heap.size 9 iS (.string ⟨#[]⟩) 1 16 Try.underlying23 JI.out JZ0.out JZ1.out JZ2.out rfl (by omega) (.slice (some ⟨wr.heap.size + 1, 0, none⟩) 0 0) 0 [] (by rfl) O21.out (some ⟨kb, ko + p, none⟩) d (c - p) (((keys.drop p).take d).map Value.string) (by rfl) (fun ex => by cases ex) HPN.out (fun ad e => by cases e; exact HPK.out _ B21.out) HP1.out (by unfold maxLen; omega) (by omega) B21.out.size ?_
             intro l5 c5 Y ho5 hg5 hx5
             rw [Nat.zero_add, List.nil_append] at ho5
             have b5 : Below wr.heap.size wr Y := B21.out.grown hg5 B21.out.size (fun g e => by have h : wr.heap.size + 1 = g := Option.some.inj e; omega)
             have bY := b5
             have oK : Y.ownsRow wr.heap.size 3 1 (.slice (some ⟨wr.heap.size, 0, none⟩) 0 0) 0 [] := own_same K21.out fun g e => by have h : wr.heap.size = g := Option.some.inj e; subst h; exact hg5.block _ (own_blk K21.out _ rfl).2 (fun ex => by have h : _ = wr.heap.size + 1 := Option.some.inj ex; omega)
             have oS := ho5
             obtain ⟨v, hv⟩ : ∃ v : TNode, v = ⟨true, l5, d, c5, (keys.drop p).take d, some ⟨wr.heap.size, 0, none⟩, 0, 0, []⟩ := ⟨_, rfl⟩
             obtain ⟨VA, hVA⟩ : ∃ VA, Y.alloc (.cells #[.bool true, .slice l5 d c5, .slice (some ⟨wr.heap.size, 0, none⟩) 0 0] 72) = VA := ⟨_, rfl⟩
             have bYA : Below Y.heap.size Y VA := by rw [← hVA]; exact (Below.refl _ _).alloc (Nat.le_refl _) _
             have XA : Hid (Box VA Y.heap.size 72 #[.bool v.lf, .slice v.ka v.kn v.kc, .slice v.ia v.im v.ic]) := by unfold Hid; rw [hv, ← hVA]; exact Box.new _ _ _
             have BA : Hid (Below wr.heap.size wr VA) := bY.trans (bYA.mono bY.size)
             have OV : Hid (OwnN1 VA wr.heap.size VA.heap.size v) := by
               rw [hv]
               have o1 := own_below oS bYA
               have o2 := own_below oK bYA
               exact ⟨o1, o2, own_blk o1, own_blk o2⟩
             have SVV : Hid (saysN v = (true, (keys.drop p).take d, ([] : List Int))) := by rw [hv]; rfl
             have OA : Hid (VA.ownsRow w.heap.size 72 3 (.slice na j nc) j (cellsN vs)) := (HB.out.below BA.out).row
             have SA : w.heap.size ≤ VA.heap.size := (HB.out.below BA.out).bel.size
             have cY : Y.cell? ⟨tb, 1, none⟩ = some (.slice na j nc) := far6 bY tb1
             have cA : VA.cell? ⟨tb, 1, none⟩ = some (.slice na j nc) := far6 BA.out tb1
             clear hv oK oS bYA bY ho5 hg5 hx5 b5)
          | (refine step_app_any _ (by rfl) (.tmp 30) (.tmp 41) 25 (by rfl) w.heap.size 72 iN (.agg #[.bool false, .slice none 0 0, .slice none 0 0]) 3 56 Try.underlying25 HI.out HZ0.out HZ1.out HZ2.out rfl (by omega) (.slice na j nc) j (cellsN vs) (by rfl) OA.out (some ⟨Y.heap.size, 0, none⟩) 1 1 (cN v) (by rfl) (fun ex => by cases ex) rfl (by exact newsV XA.out) (oneV v) (by unfold maxLen; omega) (by omega) SA ?_
             intro l2 lc2 w6 ho hgx hax
             rw [ob_slice] at hgx
             have HO6 : Hid (w6.ownsRow w.heap.size 72 3 (.slice l2 (j + 1) lc2) (j + 1) (cellsN (vs ++ [v]))) := by unfold Hid; rw [cellsN_app]; exact ho
             have HG6 : Hid (VA.grownBy w6 (ob na)) := hgx
             have X6 : Box w6 tb 27 #[.int .i64 0, .slice na j nc] := (HB.out.below BA.out).box.grown hgx (own_neT OA.out (HB.out.below BA.out).box)
             have c61 : w6.cell? ⟨tb, 1, none⟩ = some (.slice na j nc) := X6.cell 1
             have t61 := X6.thaw 1
             clear ho hgx hax X6))
        all_goals
          obtain ⟨W, hW⟩ : ∃ W, w6.setCell ⟨tb, 1, none⟩ (.slice l2 (j + 1) lc2) = W := ⟨_, rfl⟩
          have HWW : Hid (w6.setCell ⟨tb, 1, none⟩ (.slice l2 (j + 1) lc2) = W) := hW
          have NB : Hid (∃ bs' : Nat → Nat, BuSt w W w.heap.size tb (j + 1) l2 lc2 (vs ++ [v]) bs' (((leafL P keys).map sayB).take (j + 1))) := by
            obtain ⟨bs', q⟩ := HB.out.push BA.out OV.out (Nat.le_refl _) BA.out.size HG6.out HO6.out hW (Nat.le_refl _) (by have := TB.out; omega)
            rw [SVV.out, HSAY.out] at q
            exact ⟨bs', q⟩
          have NL : Hid (LsT W w.heap.size 3 la j lc ((List.range j).map intV) (vs ++ [v])) := HL.out.push HB.out BA.out OV.out HG6.out hW
          have NS : Hid (LsT W w.heap.size 9 sa j sc (((upM P keys).take j).map Value.string) (vs ++ [v])) := HS.out.push HB.out BA.out OV.out HG6.out hW
          clear hW
          go_wp2
          go_meet
          case rel =>
            obtain ⟨bs', q⟩ := NB.out
            rw [HWW.out]
            exact ⟨l2, lc2, v, bs', q, NL.out, NS.out⟩
      case rest =>
        obtain ⟨l2, lc2, v, bs', HB2, HL2, HS2⟩ := hcut
        rename World => wc
        have hd0 : ((d : Int) == 0) = false := by simp; omega
        have tb2 : wc.cell? ⟨tb, 1, none⟩ = some (.slice l2 (j + 1) lc2) := HB2.out.box.cell 1
        obtain ⟨s, hs⟩ : ∃ s, keys[p]? = some s := ⟨_, List.getElem?_eq_getElem (by have := HKL.out; omega)⟩
        have HUM : Hid ((((upM P keys).take j).map Value.string) ++ [Value.string s] = (((upM P keys).take (j + 1)).map Value.string)) := by
          unfold Hid
          rw [List.take_add_one, upM_at HD.out, HPJ.out, List.map_append]
          have e : ((keys.drop p).take d).getD 0 ⟨#[]⟩ = s := by
            rw [List.getD_eq_getElem?_getD, List.getElem?_take_of_lt (by omega), List.getElem?_drop, Nat.add_zero, hs]; rfl
          rw [e]; rfl
        have HRG : Hid ((List.range j).map intV ++ [Value.int .i64 (j : Int)] = (List.range (j + 1)).map intV) := by
          unfold Hid
          rw [List.range_succ, List.map_append]; rfl
        have HC0 : Hid (∀ U, Below w.heap.size w U → U.cell? ⟨kb, ko + p, none⟩ = some (.string s)) := by
          intro U hU
          rw [hU.cell (p := ⟨kb, ko + p, none⟩) HKB.out, HKC.out p hlt, List.getElem?_map, hs]; rfl
        have HSM : Hid ((P.take (j + 1)).sum = p + d) := by
          unfold Hid
          rw [List.take_add_one, HD.out, List.sum_append, HPJ.out]; simp
        have HJL : Hid (j + 1 ≤ P.length) := by have := (List.getElem?_eq_some_iff.1 HD.out).1; exact this
        obtain ⟨VA, hVA⟩ : ∃ VA, wc.alloc (.cells #[.int .i64 (j : Int)] 3) = VA := ⟨_, rfl⟩
        have bA : Below wc.heap.size wc VA := by rw [← hVA]; exact (Below.refl _ _).alloc (Nat.le_refl _) _
        have XA : Box VA wc.heap.size 3 #[.int .i64 (j : Int)] := by rw [← hVA]; exact Box.new _ _ _
        have NA : Hid (∀ ad, some (⟨wc.heap.size, 0, none⟩ : Addr) = some ad → ∀ k u, ([.int .i64 (j : Int)] : List Value)[k]? = some u → VA.cell? (ad.add k) = some u) := by
          intro ad ea k u hu
          cases ea
          cases k with
          | zero => cases hu; exact XA.cell 0
          | succ k => simp at hu
        have HBA : Hid (BuSt w VA w.heap.size tb (j + 1) l2 lc2 (vs ++ [v]) bs' (((leafL P keys).map sayB).take (j + 1))) := HB2.out.below bA
        have HLA : Hid (LsT VA w.heap.size 3 la j lc ((List.range j).map intV) (vs ++ [v])) := HL2.out.below bA
        have HSA : Hid (LsT VA w.heap.size 9 sa j sc (((upM P keys).take j).map Value.string) (vs ++ [v])) := HS2.out.below bA
        have sA : w.heap.size ≤ VA.heap.size := HBA.out.bel.size
        clear hs bA XA HB2 HL2 HS2 HB HL HS tb1
        go_wp2_with (first
          | (at_builtin; refine app_any _ rfl (.tmp 44) (.tmp 49) 70 rfl w.heap.size 3 iI (.int .i64 0) 1 8 Try.underlying70 II.out IZ0.out IZ1.out IZ2.out rfl (by omega) (.slice la j lc) j ((List.range j).map intV) rfl HLA.out.own (some ⟨wc.heap.size, 0, none⟩) 1 1 [.int .i64 (j : Int)] rfl (fun ex => by cases ex) rfl NA.out (by intro u hu; simp at hu; subst hu; rfl) (by unfold maxLen; omega) (by omega) sA ?_
             intro l3 c3 w3 ho3 hg3 hx3
             rw [ob_slice] at hg3
             have B3 : Hid (BuSt w w3 w.heap.size tb (j + 1) l2 lc2 (vs ++ [v]) bs' (((leafL P keys).map sayB).take (j + 1))) := HBA.out.app HLA.out hg3 (Nat.le_refl _)
             have L3' : Hid (LsT w3 w.heap.size 3 l3 (j + 1) c3 ((List.range (j + 1)).map intV) (vs ++ [v])) := HLA.out.app (by rw [← HRG.out]; exact ho3) (fun g e => by have := hx3 g e; rw [ob_slice] at this; exact this) HBA.out.lists HBA.out.len HBA.out.hi
             have S3' : Hid (LsT w3 w.heap.size 9 sa j sc (((upM P keys).take j).map Value.string) (vs ++ [v])) := HSA.out.other hg3 (fun g e ex => by obtain ⟨cs, x⟩ := own_box HSA.out.own e; exact own_neT HLA.out.own x (by decide) ex)
             have k0 : w3.cell? ⟨kb, ko + p, none⟩ = some (.string s) := HC0.out w3 B3.out.bel
             obtain ⟨VB, hVB⟩ : ∃ VB, w3.alloc (.cells #[.string s] 9) = VB := ⟨_, rfl⟩
             have bB : Below w3.heap.size w3 VB := by rw [← hVB]; exact (Below.refl _ _).alloc (Nat.le_refl _) _
             have XB : Box VB w3.heap.size 9 #[.string s] := by rw [← hVB]; exact Box.new _ _ _
             have NB : Hid (∀ ad, some (⟨w3.heap.size, 0, none⟩ : Addr) = some ad → ∀ k u, ([.string s] : List Value)[k]? = some u → VB.cell? (ad.add k) = some u) := by
               intro ad ea k u hu
               cases ea
               cases k with
               | zero => cases hu; exact XB.cell 0
               | succ k => simp at hu
             have HBB : Hid (BuSt w VB w.heap.size tb (j + 1) l2 lc2 (vs ++ [v]) bs' (((leafL P keys).map sayB).take (j + 1))) := B3.out.below bB
             have HLB : Hid (LsT VB w.heap.size 3 l3 (j + 1) c3 ((List.range (j + 1)).map intV) (vs ++ [v])) := L3'.out.below bB
             have HSB : Hid (LsT VB w.heap.size 9 sa j sc (((upM P keys).take j).map Value.string) (vs ++ [v])) := S3'.out.below bB
             have sB : w.heap.size ≤ VB.heap.size := HBB.out.bel.size
             clear ho3 hg3 hx3 B3 L3' S3' bB XB)
          | (at_builtin; refine app_any _ rfl (.tmp 53) (.tmp 58) 23 rfl w.heap.size 9 iS (.string ⟨#[]⟩) 1 16 Try.underlying23 JI.out JZ0.out JZ1.out JZ2.out rfl (by omega) (.slice sa j sc) j (((upM P keys).take j).map Value.string) rfl HSB.out.own (some ⟨w3.heap.size, 0, none⟩) 1 1 [.string s] rfl (fun ex => by cases ex) rfl NB.out (by intro u hu; simp at hu; subst hu; rfl) (by unfold maxLen; omega) (by omega) sB ?_
             intro l4 c4 w4 ho4 hg4 hx4
             rw [ob_slice] at hg4
             have B4 : Hid (BuSt w w4 w.heap.size tb (j + 1) l2 lc2 (vs ++ [v]) bs' (((leafL P keys).map sayB).take (j + 1))) := HBB.out.app HSB.out hg4 (Nat.le_refl _)
             have S4' : Hid (LsT w4 w.heap.size 9 l4 (j + 1) c4 (((upM P keys).take (j + 1)).map Value.string) (vs ++ [v])) := HSB.out.app (by rw [← HUM.out]; exact ho4) (fun g e => by have := hx4 g e; rw [ob_slice] at this; exact this) HBB.out.lists HBB.out.len HBB.out.hi
             have L4' : Hid (LsT w4 w.heap.size 3 l3 (j + 1) c3 ((List.range (j + 1)).map intV) (vs ++ [v])) := HLB.out.other hg4 (fun g e ex => by obtain ⟨cs, x⟩ := own_box HLB.out.own e; exact own_neT HSB.out.own x (by decide) ex)
             clear ho4 hg4 hx4))
        clear HBA HLA HSA HBB HLB HSB NA NB hVA hVB sA sB tb2 k0
        go_roundw
        case rel => exact ⟨j + 1, p + d, vs ++ [v], l2, lc2, bs', l3, c3, l4, c4, HJL.out, HSM.out, by go_num, rfl, rfl, B4.out, L4'.out, S4'.out⟩
        case measure => simp [intOf]; omega
    · have hps : (P.take j).sum ≤ P.sum := by
        have e : (P.take j).sum + (P.drop j).sum = P.sum := by rw [← List.sum_append, List.take_append_drop]
        omega
      have hpn : p = n := by have h1 := HPJ.out; have h2 := HPs.out; omega
      have hjl : j = P.length := sum_pos_end P j (fun d hd => (HPpos.out d hd).1) hj (by rw [HPJ.out, HPs.out]; exact hpn)
      have hj61 : j ≤ 61 := by have := HPl.out; omega
      have hj0 : 0 < j := by rw [hjl, ← HPP.out]; exact leafP_pos _
      have HJ : Hid (j = P.length) := hjl
      have B5 : Hid (BuSt w wr w.heap.size tb j na nc vs bs ((leafL P keys).map sayB)) := by
        have h := HB.out
        rw [List.take_of_length_le (by rw [List.length_map, leafL_len]; omega)] at h
        exact h
      have L5 : Hid (LsT wr w.heap.size 3 la j lc ((List.range' 0 j).map intV) vs) := by
        have h := HL.out
        rw [List.range_eq_range'] at h
        exact h
      have S5 : Hid (LsT wr w.heap.size 9 sa j sc ((upM P keys).map Value.string) vs) := by
        have h := HS.out
        rw [List.take_of_length_le (by rw [upM_len]; omega)] at h
        exact h
      have UL : Hid ((upM P keys).length = j) := by unfold Hid; rw [upM_len]; exact hjl.symm
      have hlt' : ¬ (p : Int) < (n : Int) := by omega
      have hp0 : ((p : Int) == 0) = false := by simp; omega
      clear hps hpn hjl hj HB HL HS HPJ hlt HPat HPpos HKC HKB
      go_wp2_with fail
      go_loopw [4, 5] (fun lv ls wq => ∃ (m s k : Nat) (M : List ByteArray) (vs : List TNode) (na : Option Addr) (nc : Nat) (bs : Nat → Nat) (la : Option Addr) (lc : Nat) (sa : Option Addr) (sc : Nat) (qs0 : List Nat) (L0 : List BR), lv = .slice la m lc ∧ ls = .slice sa m sc ∧ 0 < m ∧ m ≤ 61 ∧ s + m = k ∧ k + m ≤ 122 ∧ Hid (M.length = m) ∧ Hid (k = j + qs0.length) ∧ Hid (qs0 = List.range' j qs0.length) ∧ Hid (L0.length = qs0.length) ∧ Hid (∀ qs L, Grown (List.range' s m) M qs L → Grown (List.range j) (upM P keys) (qs0 ++ qs) (L0 ++ L)) ∧ Hid (BuSt w wq w.heap.size tb k na nc vs bs ((leafL P keys ++ L0).map sayB)) ∧ Hid (LsT wq w.heap.size 3 la m lc ((List.range' s m).map intV) vs) ∧ Hid (LsT wq w.heap.size 9 sa m sc (M.map Value.string) vs)) (fun lv _ _ => lenV lv)
      case atStart => exact ⟨j, 0, j, upM P keys, vs, na, nc, bs, la, lc, sa, sc, [], [], rfl, rfl, hj0, hj61, by omega, by omega, UL.out, rfl, rfl, rfl, fun qs L g => by rw [← List.range_eq_range'] at g; exact g, by unfold Hid; rw [List.append_nil]; exact B5.out, L5.out, S5.out⟩
      case round =>
        clear B5 L5 S5 UL hj0 hlt' hp0
        obtain ⟨m, s, k, M, vs, na, nc, bs, la, lc, sa, sc, qs0, L0, rfl, rfl, hm0, hm61, hsk, hkm, HM, HK, HQ, HLQ, HGR, HB, HL, HS⟩ := hrel
        rename World => wq
        by_cases hm1 : 1 < m
        · have hm1' : (1 : Int) < (m : Int) := by omega
          obtain ⟨P5, hP5⟩ : ∃ P5, parts 5 m m = P5 := ⟨_, rfl⟩
          have QAt : Hid (∀ j, (P5.take j).sum < m → P5[j]? = some (part 5 (m - (P5.take j).sum))) := by rw [← hP5]; exact parts_at (by omega) m m (Nat.le_refl _)
          have QPos : Hid (∀ d ∈ P5, 2 ≤ d ∧ d ≤ 5) := by
            rw [← hP5]; exact fun d hd => ⟨parts_two (by omega) m m d (by omega) hd, (parts_pos (by omega) m m d hd).2⟩
          have QS : Hid (P5.sum = m) := by rw [← hP5]; exact parts_sum (by omega) m m (Nat.le_refl _)
          have QL : Hid (2 * P5.length ≤ m ∧ 0 < P5.length) := by rw [← hP5]; exact ⟨parts_half (by omega) m m (by omega) (Nat.le_refl _), parts_some (by omega) (Nat.le_refl _)⟩
          have QG : Hid (∀ up qs L, up.length = P5.length → Grown up (upM P5 M) qs L → Grown (List.range' s m) M (up ++ qs) (upL P5 M (List.range' s m) ++ L)) := by
            intro up qs L e g
            have hl : (List.range' s m).length = m := List.length_range'
            have := Grown.more (ps := List.range' s m) (up := up) (qs := qs) (M := M) (L := L) (by rw [hl]; exact hm1) (by rw [hl, hP5]; exact e) (by rw [hl, hP5]; exact g)
            rw [hl, hP5] at this; exact this
          obtain ⟨U1, hU1⟩ : ∃ U, wq.alloc (.cells #[] 3) = U := ⟨_, rfl⟩
          have b1 : Below wq.heap.size wq U1 := by rw [← hU1]; exact (Below.refl _ _).alloc (Nat.le_refl _) _
          have S1 : U1.heap.size = wq.heap.size + 1 := by rw [← hU1]; simp
          have o1 : U1.ownsRow wq.heap.size 3 1 (.slice (some ⟨wq.heap.size, 0, none⟩) 0 0) 0 [] := by rw [← hU1]; exact own_emptyE (Nat.le_refl _)
          obtain ⟨U2, hU2⟩ : ∃ U, U1.alloc (.cells #[] 9) = U := ⟨_, rfl⟩
          have b2 : Below U1.heap.size U1 U2 := by rw [← hU2]; exact (Below.refl _ _).alloc (Nat.le_refl _) _
          have o2 : U2.ownsRow wq.heap.size 9 1 (.slice (some ⟨wq.heap.size + 1, 0, none⟩) 0 0) 0 [] := by rw [← hU2, ← S1]; exact own_emptyE b1.size
          have b12 : Below wq.heap.size wq U2 := b1.trans (b2.mono b1.size)
          have AP : ∀ (q : Nat), wq.heap.size ≤ q → Apart vs (some ⟨q, 0, none⟩) := fun q hq v hv g eg => by
            have e : q = g := Option.some.inj eg
            obtain ⟨i, hi'⟩ := List.mem_iff_getElem?.1 hv
            have hil : i < vs.length := (List.getElem?_eq_some_iff.1 hi').1
            have o := HB.out.lists.own i hil
            rw [List.getD_eq_getElem?_getD, hi'] at o
            exact ⟨fun ex => by have := (own_blk o.1 g ex).2; omega, fun ex => by have := (own_blk o.2.1 g ex).2; omega⟩
          have B6 : Hid (BuSt w U2 w.heap.size tb k na nc vs bs ((leafL P keys ++ L0).map sayB)) := HB.out.below b12
          have L6 : Hid (LsT U2 w.heap.size 3 la m lc ((List.range' s m).map intV) vs) := HL.out.below b12
          have S6 : Hid (LsT U2 w.heap.size 9 sa m sc (M.map Value.string) vs) := HS.out.below b12
          have UP6 : Hid (LsT U2 wq.heap.size 3 (some ⟨wq.heap.size, 0, none⟩) 0 0 [] vs) := ⟨own_below o1 b2, AP _ (Nat.le_refl _)⟩
          have UQ6 : Hid (LsT U2 wq.heap.size 9 (some ⟨wq.heap.size + 1, 0, none⟩) 0 0 [] vs) := ⟨o2, AP _ (Nat.le_succ _)⟩
          have BQ6 : Hid (wq.heap.size ≤ U2.heap.size) := b12.size
          have ALO : Hid ((∀ g, ob la = some g → g < wq.heap.size) ∧ (∀ g, ob sa = some g → g < wq.heap.size) ∧ w.heap.size ≤ wq.heap.size) := ⟨fun g e => (own_blk HL.out.own g e).2, fun g e => (own_blk HS.out.own g e).2, HB.out.bel.size⟩
          clear AP b1 b2 b12 o1 o2 HB HL HS hP5
          go_wp2_with fail
          clear hU1 hU2 S1
          go_loopw [8, 9, 10] (fun up uq i wi => ∃ (j' p : Nat) (vs : List TNode) (na : Option Addr) (nc : Nat) (bs : Nat → Nat) (ua : Option Addr) (uc : Nat) (va : Option Addr) (vc : Nat), j' ≤ P5.length ∧ Hid ((P5.take j').sum = p) ∧ i = .int .i64 (p : Int) ∧ up = .slice ua j' uc ∧ uq = .slice va j' vc ∧ Hid (BuSt w wi w.heap.size tb (k + j') na nc vs bs ((leafL P keys ++ L0 ++ (upL P5 M (List.range' s m)).take j').map sayB)) ∧ Hid (LsT wi w.heap.size 3 la m lc ((List.range' s m).map intV) vs) ∧ Hid (LsT wi w.heap.size 9 sa m sc (M.map Value.string) vs) ∧ Hid (LsT wi wq.heap.size 3 ua j' uc ((List.range' k j').map intV) vs) ∧ Hid (LsT wi wq.heap.size 9 va j' vc (((upM P5 M).take j').map Value.string) vs) ∧ Hid (wq.heap.size ≤ wi.heap.size)) (fun _ _ i _ => m - (intOf i).toNat)
          case atStart => exact ⟨0, 0, vs, na, nc, bs, _, 0, _, 0, Nat.zero_le _, rfl, rfl, rfl, rfl, by unfold Hid; rw [List.take_zero, List.append_nil]; exact B6.out, L6.out, S6.out, UP6.out, UQ6.out, BQ6.out⟩
          case round =>
            clear B6 L6 S6 UP6 UQ6 BQ6
            obtain ⟨j', p, vs, na, nc, bs, ua, uc, va, vc, hj, HPJ, rfl, rfl, rfl, HB, HL, HS, HU, HV, HBQ⟩ := hrel
            rename World => wi
            by_cases hlt : p < m
            · have hd := QAt.out j' (by rw [HPJ.out]; exact hlt)
              rw [HPJ.out] at hd
              obtain ⟨d, hdd⟩ : ∃ d, part 5 (m - p) = d := ⟨_, rfl⟩
              rw [hdd] at hd
              have CP := fun W => c_part (m - p) 5 W (by omega) (by omega) (by omega)
              have hd5 := QPos.out d (List.mem_of_getElem? hd)
              have hpd : p + d ≤ m := by have := sum_at P5 j' d hd; rw [HPJ.out, QS.out] at this; exact this
              have HD : Hid (P5[j']? = some d) := hd
              have hnp : ((m - p : Nat) : Int) = (m : Int) - (p : Int) := by omega
              rw [hdd, hnp] at CP
              have hj31 : j' ≤ 31 := by have := QL.out; omega
              have hlt' : (p : Int) < (m : Int) := by omega
              rcases own_form HL.out.own with ⟨e, h0⟩ | ⟨lb, lcap, e, hlb, hlbs⟩
              · omega
              simp only [Value.slice.injEq] at e
              obtain ⟨rfl, _, rfl⟩ := e
              rcases own_form HS.out.own with ⟨e, h0⟩ | ⟨sb, scap, e, hsb, hsbs⟩
              · omega
              simp only [Value.slice.injEq] at e
              obtain ⟨rfl, _, rfl⟩ := e
              have hlc := own_cap HL.out.own
              have hsc := own_cap HS.out.own
              unfold maxLen at hlc hsc
              have q0 : (0 : Int) ≤ (p : Int) := by omega
              have q1 : (p : Int) ≤ (p : Int) + (d : Int) := by omega
              have q2 : (p : Int) + (d : Int) ≤ (lc : Int) := by omega
              have q2' : (p : Int) + (d : Int) ≤ (sc : Int) := by omega
              have q3 : ((p : Int) + (d : Int)).toNat = p + d := by omega
              have q3' : ((p : Int) + 1).toNat = p + 1 := by omega
              have q4 : ¬ (lc = p) := by omega
              have q4' : ¬ (sc = p + 1) := by omega
              have q5 : IntKind.i64.wrap ((p : Int) + (d : Int)) = (p : Int) + (d : Int) := by rw [IntKind.wrap_i64]; omega
              have q5' : IntKind.i64.wrap ((p : Int) + 1) = (p : Int) + 1 := by rw [IntKind.wrap_i64]; omega
              have q6 : (0 : Int) ≤ (p : Int) + 1 := by omega
              have q7 : (p : Int) + 1 ≤ (p : Int) + (d : Int) := by omega
              have tb1 : wi.cell? ⟨tb, 1, none⟩ = some (.slice na (k + j') nc) := HB.out.box.cell 1
              clear hd hnp hdd
              go_wp2_with fail
              refine (CP wi).mono ?_
              rintro e w' ⟨rfl, hq⟩; have hq' := hq.symm; subst hq'; clear hq CP
              go_wp2_with fail
              obtain ⟨d1, hd1⟩ : ∃ d1, d = d1 + 1 := ⟨d - 1, by omega⟩
              have HD1 : Hid (d = d1 + 1) := hd1
              have q8 : p + d - (p + 1) = d1 := by omega
              have RS : RdV wi (some ⟨sb, 0, none⟩) m (M.map Value.string) := RdV.own HS.out.own
              have RL : RdV wi (some ⟨lb, 0, none⟩) m ((List.range' s m).map intV) := RdV.own HL.out.own
              have HNK : Hid (∀ U, Below wi.heap.size wi U → ∀ i u, (((M.drop (p + 1)).take d1).map Value.string)[i]? = some u → U.cell? ((⟨sb, p + 1, none⟩ : Addr).add i) = some u) := by
                intro U hU i u hu
                have hi : i < d1 := by have := (List.getElem?_eq_some_iff.1 hu).1; rw [List.length_map, List.length_take] at this; omega
                obtain ⟨b', off', e, hl, hc⟩ := (RS.below hU).2 (by omega)
                cases e
                have := hc (p + 1 + i) (by omega)
                rw [Nat.zero_add] at this
                rw [addr_add, this]
                rw [List.getElem?_map, List.getElem?_take_of_lt hi, List.getElem?_drop] at hu
                rw [List.getElem?_map]; exact hu
              have HNI : Hid (∀ U, Below wi.heap.size wi U → ∀ i u, ((((List.range' s m).drop p).take d).map intV)[i]? = some u → U.cell? ((⟨lb, p, none⟩ : Addr).add i) = some u) := by
                intro U hU i u hu
                have hi : i < d := by have := (List.getElem?_eq_some_iff.1 hu).1; rw [List.length_map, List.length_take] at this; omega
                obtain ⟨b', off', e, hl, hc⟩ := (RL.below hU).2 (by omega)
                cases e
                have := hc (p + i) (by omega)
                rw [Nat.zero_add] at this
                rw [addr_add, this]
                rw [List.getElem?_map, List.getElem?_take_of_lt hi, List.getElem?_drop] at hu
                rw [List.getElem?_map]; exact hu
              have HKN : Hid ((((M.drop (p + 1)).take d1).map Value.string).length = d1 * 1) := by unfold Hid; rw [List.length_map, List.length_take, List.length_drop, HM.out]; omega
              have HIN : Hid (((((List.range' s m).drop p).take d).map intV).length = d * 1) := by unfold Hid; rw [List.length_map, List.length_take, List.length_drop, List.length_range']; omega
              have HK1 : Hid (∀ u ∈ ((M.drop (p + 1)).take d1).map Value.string, u.oneCell' = true) := map_one _ (fun _ => rfl) _
              have HI1 : Hid (∀ u ∈ (((List.range' s m).drop p).take d).map intV, u.oneCell' = true) := map_one _ (fun _ => rfl) _
              have HSAY : Hid ((leafL P keys ++ L0 ++ (upL P5 M (List.range' s m)).take j').map sayB ++ [(false, (M.drop (p + 1)).take d1, (((List.range' s m).drop p).take d).map fun (u : Nat) => (u : Int))] = (leafL P keys ++ L0 ++ (upL P5 M (List.range' s m)).take (j' + 1)).map sayB) := by
                unfold Hid
                rw [List.take_add_one, upL_at HD.out, HPJ.out, ← List.append_assoc, List.map_append (l₁ := leafL P keys ++ L0 ++ _)]
                have e1 : ((M.drop p).take d).drop 1 = (M.drop (p + 1)).take d1 := by rw [List.drop_take, List.drop_drop, hd1, Nat.add_sub_cancel]
                have e2 : (((List.range' s m).drop p).take d).length = d := by rw [List.length_take, List.length_drop, List.length_range']; omega
                rw [e1]
                show _ = _ ++ [(decide ((((List.range' s m).drop p).take d).length = 0), _, _)]
                rw [e2, decide_eq_false (by omega)]
              obtain ⟨q, hq⟩ : ∃ q, k + j' = q := ⟨_, rfl⟩
              have HQ9 : Hid (k + j' = q) := hq
              have hq9 : q ≤ 160 := by omega
              rw [hq] at HB tb1
              clear RS RL hd1 hq
              go_cut [] from 77 to 99 (fun W => ∃ (l2 : Option Addr) (lc2 : Nat) (v : TNode) (bs' : Nat → Nat), Hid (BuSt w W w.heap.size tb (q + 1) l2 lc2 (vs ++ [v]) bs' ((leafL P keys ++ L0 ++ (upL P5 M (List.range' s m)).take (j' + 1)).map sayB)) ∧ Hid (LsT W w.heap.size 3 (some ⟨lb, 0, none⟩) m lc ((List.range' s m).map intV) (vs ++ [v])) ∧ Hid (LsT W w.heap.size 9 (some ⟨sb, 0, none⟩) m sc (M.map Value.string) (vs ++ [v])) ∧ Hid (LsT W wq.heap.size 3 ua j' uc ((List.range' k j').map intV) (vs ++ [v])) ∧ Hid (LsT W wq.heap.size 9 va j' vc (((upM P5 M).take j').map Value.string) (vs ++ [v])) ∧ Hid (wq.heap.size ≤ W.heap.size))
              case first =>
                obtain ⟨D9, hD9⟩ : ∃ U, wi.drew.alloc (.cells #[] 9) = U := ⟨_, rfl⟩
                obtain ⟨D3, hD3⟩ : ∃ U, wi.drew.alloc (.cells #[] 3) = U := ⟨_, rfl⟩
                have S9 : D9.heap.size = wi.heap.size + 1 := by rw [← hD9]; simp
                have S3 : D3.heap.size = wi.heap.size + 1 := by rw [← hD3]; simp
                obtain ⟨D93, hD93⟩ : ∃ U, D9.alloc (.cells #[] 3) = U := ⟨_, rfl⟩
                obtain ⟨D39, hD39⟩ : ∃ U, D3.alloc (.cells #[] 9) = U := ⟨_, rfl⟩
                have b9 : Below wi.heap.size wi D9 := by rw [← hD9]; exact (Below.refl _ _).drew.alloc (Nat.le_refl _) _
                have b3 : Below wi.heap.size wi D3 := by rw [← hD3]; exact (Below.refl _ _).drew.alloc (Nat.le_refl _) _
                have b93 : Below wi.heap.size wi D93 := by rw [← hD93]; exact b9.alloc b9.size _
                have b39 : Below wi.heap.size wi D39 := by rw [← hD39]; exact b3.alloc b3.size _
                have P9 : Hid (D9.ownsRow wi.heap.size 9 1 (.slice (some ⟨wi.heap.size, 0, none⟩) 0 0) 0 []) := by unfold Hid; rw [← hD9]; exact own_emptyE (V := wi.drew) (Nat.le_refl _)
                have P93 : Hid (D93.ownsRow wi.heap.size 9 1 (.slice (some ⟨wi.heap.size, 0, none⟩) 0 0) 0 []) := by unfold Hid; rw [← hD93]; exact own_below P9.out ((Below.refl _ _).alloc (Nat.le_refl _) _)
                have I93 : Hid (D93.ownsRow wi.heap.size 3 1 (.slice (some ⟨wi.heap.size + 1, 0, none⟩) 0 0) 0 []) := by unfold Hid; rw [← hD93, ← S9]; exact own_emptyE b9.size
                have I3 : Hid (D3.ownsRow wi.heap.size 3 1 (.slice (some ⟨wi.heap.size, 0, none⟩) 0 0) 0 []) := by unfold Hid; rw [← hD3]; exact own_emptyE (V := wi.drew) (Nat.le_refl _)
                have I39 : Hid (D39.ownsRow wi.heap.size 3 1 (.slice (some ⟨wi.heap.size, 0, none⟩) 0 0) 0 []) := by unfold Hid; rw [← hD39]; exact own_below I3.out ((Below.refl _ _).alloc (Nat.le_refl _) _)
                have P39 : Hid (D39.ownsRow wi.heap.size 9 1 (.slice (some ⟨wi.heap.size + 1, 0, none⟩) 0 0) 0 []) := by unfold Hid; rw [← hD39, ← S3]; exact own_emptyE b3.size
                have c9 : D9.cell? ⟨tb, 1, none⟩ = some (.slice na q nc) := far6 b9 tb1
                have c3 : D3.cell? ⟨tb, 1, none⟩ = some (.slice na q nc) := far6 b3 tb1
                have c93 : D93.cell? ⟨tb, 1, none⟩ = some (.slice na q nc) := far6 b93 tb1
                have c39 : D39.cell? ⟨tb, 1, none⟩ = some (.slice na q nc) := far6 b39 tb1
                have B9 : Hid (Below wi.heap.size wi D9) := b9
                have B3 : Hid (Below wi.heap.size wi D3) := b3
                have B93 : Hid (Below wi.heap.size wi D93) := b93
                have B39 : Hid (Below wi.heap.size wi D39) := b39
                clear b9 b3 b93 b39
                go_region_law (first
                  | (refine step_app_any _ (by rfl) (.tmp 79) (.tmp 86) 23 (by rfl) wi.heap.size 9 iS (.string ⟨#[]⟩) 1 16 Try.underlying23 JI.out JZ0.out JZ1.out JZ2.out rfl (by omega) (.slice (some ⟨wi.heap.size, 0, none⟩) 0 0) 0 [] (by rfl) P9.out (some ⟨sb, p + 1, none⟩) d1 (sc - (p + 1)) (((M.drop (p + 1)).take d1).map Value.string) (by rfl) (fun ex => by cases ex) HKN.out (fun ad e => by cases e; exact HNK.out _ B9.out) HK1.out (by unfold maxLen; omega) (by omega) B9.out.size ?_
                     intro l5 c5 w5 ho5 hg5 hx5
                     rw [Nat.zero_add, List.nil_append] at ho5
                     rw [ob_slice] at hg5
                     have b5 : Below wi.heap.size wi w5 := B9.out.grown hg5 B9.out.size (fun g e => (own_blk P9.out g e).1)
                     obtain ⟨F3, hF3⟩ : ∃ U, w5.alloc (.cells #[] 3) = U := ⟨_, rfl⟩
                     have b5F : Below w5.heap.size w5 F3 := by rw [← hF3]; exact (Below.refl _ _).alloc (Nat.le_refl _) _
                     have B5 : Hid (Below wi.heap.size wi F3) := b5.trans (b5F.mono b5.size)
                     have I5 : Hid (F3.ownsRow wi.heap.size 3 1 (.slice (some ⟨w5.heap.size, 0, none⟩) 0 0) 0 []) := by unfold Hid; rw [← hF3]; exact own_emptyE b5.size
                     have K5 : Hid (F3.ownsRow wi.heap.size 9 1 (.slice l5 d1 c5) d1 (((M.drop (p + 1)).take d1).map Value.string)) := own_below ho5 b5F
                     have cw : w5.cell? ⟨tb, 1, none⟩ = some (.slice na q nc) := far6 b5 tb1
                     have cF : F3.cell? ⟨tb, 1, none⟩ = some (.slice na q nc) := far6 B5.out tb1
                     clear ho5 hg5 hx5 b5 b5F)
                  | (refine step_app_any _ (by rfl) (.tmp 79) (.tmp 86) 23 (by rfl) wi.heap.size 9 iS (.string ⟨#[]⟩) 1 16 Try.underlying23 JI.out JZ0.out JZ1.out JZ2.out rfl (by omega) (.slice (some ⟨wi.heap.size, 0, none⟩) 0 0) 0 [] (by rfl) P93.out (some ⟨sb, p + 1, none⟩) d1 (sc - (p + 1)) (((M.drop (p + 1)).take d1).map Value.string) (by rfl) (fun ex => by cases ex) HKN.out (fun ad e => by cases e; exact HNK.out _ B93.out) HK1.out (by unfold maxLen; omega) (by omega) B93.out.size ?_
                     intro l5 c5 w5 ho5 hg5 hx5
                     rw [Nat.zero_add, List.nil_append] at ho5
                     rw [ob_slice] at hg5
                     have b5 : Below wi.heap.size wi w5 := B93.out.grown hg5 B93.out.size (fun g e => (own_blk P93.out g e).1)
                     have B5 : Hid (Below wi.heap.size wi w5) := b5
                     have I5 : Hid (w5.ownsRow wi.heap.size 3 1 (.slice (some ⟨wi.heap.size + 1, 0, none⟩) 0 0) 0 []) := own_cross I93.out P93.out hg5 (by decide)
                     have K5 : Hid (w5.ownsRow wi.heap.size 9 1 (.slice l5 d1 c5) d1 (((M.drop (p + 1)).take d1).map Value.string)) := ho5
                     have cw : w5.cell? ⟨tb, 1, none⟩ = some (.slice na q nc) := far6 b5 tb1
                     clear ho5 hg5 hx5 b5)
                  | (refine step_app_any _ (by rfl) (.tmp 79) (.tmp 86) 23 (by rfl) wi.heap.size 9 iS (.string ⟨#[]⟩) 1 16 Try.underlying23 JI.out JZ0.out JZ1.out JZ2.out rfl (by omega) (.slice (some ⟨wi.heap.size + 1, 0, none⟩) 0 0) 0 [] (by rfl) P39.out (some ⟨sb, p + 1, none⟩) d1 (sc - (p + 1)) (((M.drop (p + 1)).take d1).map Value.string) (by rfl) (fun ex => by cases ex) HKN.out (fun ad e => by cases e; exact HNK.out _ B39.out) HK1.out (by unfold maxLen; omega) (by omega) B39.out.size ?_
                     intro l5 c5 w5 ho5 hg5 hx5
                     rw [Nat.zero_add, List.nil_append] at ho5
                     rw [ob_slice] at hg5
                     have b5 : Below wi.heap.size wi w5 := B39.out.grown hg5 B39.out.size (fun g e => (own_blk P39.out g e).1)
                     have B5 : Hid (Below wi.heap.size wi w5) := b5
                     have I5 : Hid (w5.ownsRow wi.heap.size 3 1 (.slice (some ⟨wi.heap.size, 0, none⟩) 0 0) 0 []) := own_cross I39.out P39.out hg5 (by decide)
                     have K5 : Hid (w5.ownsRow wi.heap.size 9 1 (.slice l5 d1 c5) d1 (((M.drop (p + 1)).take d1).map Value.string)) := ho5
                     have cw : w5.cell? ⟨tb, 1, none⟩ = some (.slice na q nc) := far6 b5 tb1
                     clear ho5 hg5 hx5 b5)
                  | (refine step_app_any _ (by rfl) (.tmp 88) (.tmp 94) 70 (by rfl) wi.heap.size 3 iI (.int .i64 0) 1 8 Try.underlying70 II.out IZ0.out IZ1.out IZ2.out rfl (by omega) (.slice (some ⟨wi.heap.size, 0, none⟩) 0 0) 0 [] (by rfl) I3.out (some ⟨lb, p, none⟩) d (lc - p) ((((List.range' s m).drop p).take d).map intV) (by rfl) (fun ex => by cases ex) HIN.out (fun ad e => by cases e; exact HNI.out _ B3.out) HI1.out (by unfold maxLen; omega) (by omega) B3.out.size ?_
                     intro l7 c7 w7 ho5 hg5 hx5
                     rw [Nat.zero_add, List.nil_append] at ho5
                     rw [ob_slice] at hg5
                     have b5 : Below wi.heap.size wi w7 := B3.out.grown hg5 B3.out.size (fun g e => (own_blk I3.out g e).1)
                     obtain ⟨F9, hF9⟩ : ∃ U, w7.alloc (.cells #[] 9) = U := ⟨_, rfl⟩
                     have b5F : Below w7.heap.size w7 F9 := by rw [← hF9]; exact (Below.refl _ _).alloc (Nat.le_refl _) _
                     have B7 : Hid (Below wi.heap.size wi F9) := b5.trans (b5F.mono b5.size)
                     have K7 : Hid (F9.ownsRow wi.heap.size 9 1 (.slice (some ⟨w7.heap.size, 0, none⟩) 0 0) 0 []) := by unfold Hid; rw [← hF9]; exact own_emptyE b5.size
                     have I7 : Hid (F9.ownsRow wi.heap.size 3 1 (.slice l7 d c7) d ((((List.range' s m).drop p).take d).map intV)) := own_below ho5 b5F
                     have cw : w7.cell? ⟨tb, 1, none⟩ = some (.slice na q nc) := far6 b5 tb1
                     have cF : F9.cell? ⟨tb, 1, none⟩ = some (.slice na q nc) := far6 B7.out tb1
                     clear ho5 hg5 hx5 b5 b5F)
                  | (refine step_app_any _ (by rfl) (.tmp 88) (.tmp 94) 70 (by rfl) wi.heap.size 3 iI (.int .i64 0) 1 8 Try.underlying70 II.out IZ0.out IZ1.out IZ2.out rfl (by omega) (.slice (some ⟨wi.heap.size + 1, 0, none⟩) 0 0) 0 [] (by rfl) I93.out (some ⟨lb, p, none⟩) d (lc - p) ((((List.range' s m).drop p).take d).map intV) (by rfl) (fun ex => by cases ex) HIN.out (fun ad e => by cases e; exact HNI.out _ B93.out) HI1.out (by unfold maxLen; omega) (by omega) B93.out.size ?_
                     intro l7 c7 w7 ho5 hg5 hx5
                     rw [Nat.zero_add, List.nil_append] at ho5
                     rw [ob_slice] at hg5
                     have b5 : Below wi.heap.size wi w7 := B93.out.grown hg5 B93.out.size (fun g e => (own_blk I93.out g e).1)
                     have B7 : Hid (Below wi.heap.size wi w7) := b5
                     have K7 : Hid (w7.ownsRow wi.heap.size 9 1 (.slice (some ⟨wi.heap.size, 0, none⟩) 0 0) 0 []) := own_cross P93.out I93.out hg5 (by decide)
                     have I7 : Hid (w7.ownsRow wi.heap.size 3 1 (.slice l7 d c7) d ((((List.range' s m).drop p).take d).map intV)) := ho5
                     have cw : w7.cell? ⟨tb, 1, none⟩ = some (.slice na q nc) := far6 b5 tb1
                     clear ho5 hg5 hx5 b5)
                  | (refine step_app_any _ (by rfl) (.tmp 88) (.tmp 94) 70 (by rfl) wi.heap.size 3 iI (.int .i64 0) 1 8 Try.underlying70 II.out IZ0.out IZ1.out IZ2.out rfl (by omega) (.slice (some ⟨wi.heap.size, 0, none⟩) 0 0) 0 [] (by rfl) I39.out (some ⟨lb, p, none⟩) d (lc - p) ((((List.range' s m).drop p).take d).map intV) (by rfl) (fun ex => by cases ex) HIN.out (fun ad e => by cases e; exact HNI.out _ B39.out) HI1.out (by unfold maxLen; omega) (by omega) B39.out.size ?_
                     intro l7 c7 w7 ho5 hg5 hx5
                     rw [Nat.zero_add, List.nil_append] at ho5
                     rw [ob_slice] at hg5
                     have b5 : Below wi.heap.size wi w7 := B39.out.grown hg5 B39.out.size (fun g e => (own_blk I39.out g e).1)
                     have B7 : Hid (Below wi.heap.size wi w7) := b5
                     have K7 : Hid (w7.ownsRow wi.heap.size 9 1 (.slice (some ⟨wi.heap.size + 1, 0, none⟩) 0 0) 0 []) := own_cross P39.out I39.out hg5 (by decide)
                     have I7 : Hid (w7.ownsRow wi.heap.size 3 1 (.slice l7 d c7) d ((((List.range' s m).drop p).take d).map intV)) := ho5
                     have cw : w7.cell? ⟨tb, 1, none⟩ = some (.slice na q nc) := far6 b5 tb1
                     clear ho5 hg5 hx5 b5)
                  | (refine step_app_any _ (by rfl) (.tmp 79) (.tmp 86) 23 (by rfl) wi.heap.size 9 iS (.string ⟨#[]⟩) 1 16 Try.underlying23 JI.out JZ0.out JZ1.out JZ2.out rfl (by omega) (.slice (some ⟨wi.heap.size, 0, none⟩) 0 0) 0 [] (by rfl) K7.out (some ⟨sb, p + 1, none⟩) d1 (sc - (p + 1)) (((M.drop (p + 1)).take d1).map Value.string) (by rfl) (fun ex => by cases ex) HKN.out (fun ad e => by cases e; exact HNK.out _ B7.out) HK1.out (by unfold maxLen; omega) (by omega) B7.out.size ?_
                     intro l5 c5 Y ho5 hg5 hx5
                     rw [Nat.zero_add, List.nil_append] at ho5
                     rw [ob_slice] at hg5
                     have b5 : Below wi.heap.size wi Y := B7.out.grown hg5 B7.out.size (fun g e => (own_blk K7.out g e).1)
                     have oO := own_cross I7.out K7.out hg5 (by decide)
                     have oK : Y.ownsRow wi.heap.size 9 1 (.slice l5 d1 c5) d1 (((M.drop (p + 1)).take d1).map Value.string) := ho5
                     have oI : Y.ownsRow wi.heap.size 3 1 (.slice l7 d c7) d ((((List.range' s m).drop p).take d).map intV) := oO
                     obtain ⟨v, hv⟩ : ∃ v : TNode, v = ⟨false, l5, d1, c5, (M.drop (p + 1)).take d1, l7, d, c7, (((List.range' s m).drop p).take d).map fun (u : Nat) => (u : Int)⟩ := ⟨_, rfl⟩
                     obtain ⟨VA, hVA⟩ : ∃ VA, Y.alloc (.cells #[.bool false, .slice l5 d1 c5, .slice l7 d c7] 72) = VA := ⟨_, rfl⟩
                     have bYA : Below Y.heap.size Y VA := by rw [← hVA]; exact (Below.refl _ _).alloc (Nat.le_refl _) _
                     have XA : Hid (Box VA Y.heap.size 72 #[.bool v.lf, .slice v.ka v.kn v.kc, .slice v.ia v.im v.ic]) := by unfold Hid; rw [hv, ← hVA]; exact Box.new _ _ _
                     have BA : Hid (Below wi.heap.size wi VA) := b5.trans (bYA.mono b5.size)
                     have OV : Hid (OwnN1 VA wi.heap.size VA.heap.size v) := by
                       rw [hv]
                       have o1 := own_below oK bYA
                       have o2 := own_below oI bYA
                       exact ⟨o1, by rw [List.map_map]; exact o2, own_blk o1, own_blk o2⟩
                     have SVV : Hid (saysN v = (false, (M.drop (p + 1)).take d1, (((List.range' s m).drop p).take d).map fun (u : Nat) => (u : Int))) := by rw [hv]; rfl
                     have OA : Hid (VA.ownsRow w.heap.size 72 3 (.slice na q nc) q (cellsN vs)) := (HB.out.below BA.out).row
                     have SA : w.heap.size ≤ VA.heap.size := (HB.out.below BA.out).bel.size
                     have cY : Y.cell? ⟨tb, 1, none⟩ = some (.slice na q nc) := far6 b5 tb1
                     have cA : VA.cell? ⟨tb, 1, none⟩ = some (.slice na q nc) := far6 BA.out tb1
                     clear hv oK oI oO bYA ho5 hg5 hx5 b5)
                  | (refine step_app_any _ (by rfl) (.tmp 79) (.tmp 86) 23 (by rfl) wi.heap.size 9 iS (.string ⟨#[]⟩) 1 16 Try.underlying23 JI.out JZ0.out JZ1.out JZ2.out rfl (by omega) (.slice (some ⟨wi.heap.size + 1, 0, none⟩) 0 0) 0 [] (by rfl) K7.out (some ⟨sb, p + 1, none⟩) d1 (sc - (p + 1)) (((M.drop (p + 1)).take d1).map Value.string) (by rfl) (fun ex => by cases ex) HKN.out (fun ad e => by cases e; exact HNK.out _ B7.out) HK1.out (by unfold maxLen; omega) (by omega) B7.out.size ?_
                     intro l5 c5 Y ho5 hg5 hx5
                     rw [Nat.zero_add, List.nil_append] at ho5
                     rw [ob_slice] at hg5
                     have b5 : Below wi.heap.size wi Y := B7.out.grown hg5 B7.out.size (fun g e => (own_blk K7.out g e).1)
                     have oO := own_cross I7.out K7.out hg5 (by decide)
                     have oK : Y.ownsRow wi.heap.size 9 1 (.slice l5 d1 c5) d1 (((M.drop (p + 1)).take d1).map Value.string) := ho5
                     have oI : Y.ownsRow wi.heap.size 3 1 (.slice l7 d c7) d ((((List.range' s m).drop p).take d).map intV) := oO
                     obtain ⟨v, hv⟩ : ∃ v : TNode, v = ⟨false, l5, d1, c5, (M.drop (p + 1)).take d1, l7, d, c7, (((List.range' s m).drop p).take d).map fun (u : Nat) => (u : Int)⟩ := ⟨_, rfl⟩
                     obtain ⟨VA, hVA⟩ : ∃ VA, Y.alloc (.cells #[.bool false, .slice l5 d1 c5, .slice l7 d c7] 72) = VA := ⟨_, rfl⟩
                     have bYA : Below Y.heap.size Y VA := by rw [← hVA]; exact (Below.refl _ _).alloc (Nat.le_refl _) _
                     have XA : Hid (Box VA Y.heap.size 72 #[.bool v.lf, .slice v.ka v.kn v.kc, .slice v.ia v.im v.ic]) := by unfold Hid; rw [hv, ← hVA]; exact Box.new _ _ _
                     have BA : Hid (Below wi.heap.size wi VA) := b5.trans (bYA.mono b5.size)
                     have OV : Hid (OwnN1 VA wi.heap.size VA.heap.size v) := by
                       rw [hv]
                       have o1 := own_below oK bYA
                       have o2 := own_below oI bYA
                       exact ⟨o1, by rw [List.map_map]; exact o2, own_blk o1, own_blk o2⟩
                     have SVV : Hid (saysN v = (false, (M.drop (p + 1)).take d1, (((List.range' s m).drop p).take d).map fun (u : Nat) => (u : Int))) := by rw [hv]; rfl
                     have OA : Hid (VA.ownsRow w.heap.size 72 3 (.slice na q nc) q (cellsN vs)) := (HB.out.below BA.out).row
                     have SA : w.heap.size ≤ VA.heap.size := (HB.out.below BA.out).bel.size
                     have cY : Y.cell? ⟨tb, 1, none⟩ = some (.slice na q nc) := far6 b5 tb1
                     have cA : VA.cell? ⟨tb, 1, none⟩ = some (.slice na q nc) := far6 BA.out tb1
                     clear hv oK oI oO bYA ho5 hg5 hx5 b5)
                  | (refine step_app_any _ (by rfl) (.tmp 79) (.tmp 86) 23 (by rfl) wi.heap.size 9 iS (.string ⟨#[]⟩) 1 16 Try.underlying23 JI.out JZ0.out JZ1.out JZ2.out rfl (by omega) (.slice (some ⟨w7.heap.size, 0, none⟩) 0 0) 0 [] (by rfl) K7.out (some ⟨sb, p + 1, none⟩) d1 (sc - (p + 1)) (((M.drop (p + 1)).take d1).map Value.string) (by rfl) (fun ex => by cases ex) HKN.out (fun ad e => by cases e; exact HNK.out _ B7.out) HK1.out (by unfold maxLen; omega) (by omega) B7.out.size ?_
                     intro l5 c5 Y ho5 hg5 hx5
                     rw [Nat.zero_add, List.nil_append] at ho5
                     rw [ob_slice] at hg5
                     have b5 : Below wi.heap.size wi Y := B7.out.grown hg5 B7.out.size (fun g e => (own_blk K7.out g e).1)
                     have oO := own_cross I7.out K7.out hg5 (by decide)
                     have oK : Y.ownsRow wi.heap.size 9 1 (.slice l5 d1 c5) d1 (((M.drop (p + 1)).take d1).map Value.string) := ho5
                     have oI : Y.ownsRow wi.heap.size 3 1 (.slice l7 d c7) d ((((List.range' s m).drop p).take d).map intV) := oO
                     obtain ⟨v, hv⟩ : ∃ v : TNode, v = ⟨false, l5, d1, c5, (M.drop (p + 1)).take d1, l7, d, c7, (((List.range' s m).drop p).take d).map fun (u : Nat) => (u : Int)⟩ := ⟨_, rfl⟩
                     obtain ⟨VA, hVA⟩ : ∃ VA, Y.alloc (.cells #[.bool false, .slice l5 d1 c5, .slice l7 d c7] 72) = VA := ⟨_, rfl⟩
                     have bYA : Below Y.heap.size Y VA := by rw [← hVA]; exact (Below.refl _ _).alloc (Nat.le_refl _) _
                     have XA : Hid (Box VA Y.heap.size 72 #[.bool v.lf, .slice v.ka v.kn v.kc, .slice v.ia v.im v.ic]) := by unfold Hid; rw [hv, ← hVA]; exact Box.new _ _ _
                     have BA : Hid (Below wi.heap.size wi VA) := b5.trans (bYA.mono b5.size)
                     have OV : Hid (OwnN1 VA wi.heap.size VA.heap.size v) := by
                       rw [hv]
                       have o1 := own_below oK bYA
                       have o2 := own_below oI bYA
                       exact ⟨o1, by rw [List.map_map]; exact o2, own_blk o1, own_blk o2⟩
                     have SVV : Hid (saysN v = (false, (M.drop (p + 1)).take d1, (((List.range' s m).drop p).take d).map fun (u : Nat) => (u : Int))) := by rw [hv]; rfl
                     have OA : Hid (VA.ownsRow w.heap.size 72 3 (.slice na q nc) q (cellsN vs)) := (HB.out.below BA.out).row
                     have SA : w.heap.size ≤ VA.heap.size := (HB.out.below BA.out).bel.size
                     have cY : Y.cell? ⟨tb, 1, none⟩ = some (.slice na q nc) := far6 b5 tb1
                     have cA : VA.cell? ⟨tb, 1, none⟩ = some (.slice na q nc) := far6 BA.out tb1
                     clear hv oK oI oO bYA ho5 hg5 hx5 b5)
                  | (refine step_app_any _ (by rfl) (.tmp 88) (.tmp 94) 70 (by rfl) wi.heap.size 3 iI (.int .i64 0) 1 8 Try.underlying70 II.out IZ0.out IZ1.out IZ2.out rfl (by omega) (.slice (some ⟨wi.heap.size, 0, none⟩) 0 0) 0 [] (by rfl) I5.out (some ⟨lb, p, none⟩) d (lc - p) ((((List.range' s m).drop p).take d).map intV) (by rfl) (fun ex => by cases ex) HIN.out (fun ad e => by cases e; exact HNI.out _ B5.out) HI1.out (by unfold maxLen; omega) (by omega) B5.out.size ?_
                     intro l7 c7 Y ho5 hg5 hx5
                     rw [Nat.zero_add, List.nil_append] at ho5
                     rw [ob_slice] at hg5
                     have b5 : Below wi.heap.size wi Y := B5.out.grown hg5 B5.out.size (fun g e => (own_blk I5.out g e).1)
                     have oO := own_cross K5.out I5.out hg5 (by decide)
                     have oK : Y.ownsRow wi.heap.size 9 1 (.slice l5 d1 c5) d1 (((M.drop (p + 1)).take d1).map Value.string) := oO
                     have oI : Y.ownsRow wi.heap.size 3 1 (.slice l7 d c7) d ((((List.range' s m).drop p).take d).map intV) := ho5
                     obtain ⟨v, hv⟩ : ∃ v : TNode, v = ⟨false, l5, d1, c5, (M.drop (p + 1)).take d1, l7, d, c7, (((List.range' s m).drop p).take d).map fun (u : Nat) => (u : Int)⟩ := ⟨_, rfl⟩
                     obtain ⟨VA, hVA⟩ : ∃ VA, Y.alloc (.cells #[.bool false, .slice l5 d1 c5, .slice l7 d c7] 72) = VA := ⟨_, rfl⟩
                     have bYA : Below Y.heap.size Y VA := by rw [← hVA]; exact (Below.refl _ _).alloc (Nat.le_refl _) _
                     have XA : Hid (Box VA Y.heap.size 72 #[.bool v.lf, .slice v.ka v.kn v.kc, .slice v.ia v.im v.ic]) := by unfold Hid; rw [hv, ← hVA]; exact Box.new _ _ _
                     have BA : Hid (Below wi.heap.size wi VA) := b5.trans (bYA.mono b5.size)
                     have OV : Hid (OwnN1 VA wi.heap.size VA.heap.size v) := by
                       rw [hv]
                       have o1 := own_below oK bYA
                       have o2 := own_below oI bYA
                       exact ⟨o1, by rw [List.map_map]; exact o2, own_blk o1, own_blk o2⟩
                     have SVV : Hid (saysN v = (false, (M.drop (p + 1)).take d1, (((List.range' s m).drop p).take d).map fun (u : Nat) => (u : Int))) := by rw [hv]; rfl
                     have OA : Hid (VA.ownsRow w.heap.size 72 3 (.slice na q nc) q (cellsN vs)) := (HB.out.below BA.out).row
                     have SA : w.heap.size ≤ VA.heap.size := (HB.out.below BA.out).bel.size
                     have cY : Y.cell? ⟨tb, 1, none⟩ = some (.slice na q nc) := far6 b5 tb1
                     have cA : VA.cell? ⟨tb, 1, none⟩ = some (.slice na q nc) := far6 BA.out tb1
                     clear hv oK oI oO bYA ho5 hg5 hx5 b5)
                  | (refine step_app_any _ (by rfl) (.tmp 88) (.tmp 94) 70 (by rfl) wi.heap.size 3 iI (.int .i64 0) 1 8 Try.underlying70 II.out IZ0.out IZ1.out IZ2.out rfl (by omega) (.slice (some ⟨wi.heap.size + 1, 0, none⟩) 0 0) 0 [] (by rfl) I5.out (some ⟨lb, p, none⟩) d (lc - p) ((((List.range' s m).drop p).take d).map intV) (by rfl) (fun ex => by cases ex) HIN.out (fun ad e => by cases e; exact HNI.out _ B5.out) HI1.out (by unfold maxLen; omega) (by omega) B5.out.size ?_
                     intro l7 c7 Y ho5 hg5 hx5
                     rw [Nat.zero_add, List.nil_append] at ho5
                     rw [ob_slice] at hg5
                     have b5 : Below wi.heap.size wi Y := B5.out.grown hg5 B5.out.size (fun g e => (own_blk I5.out g e).1)
                     have oO := own_cross K5.out I5.out hg5 (by decide)
                     have oK : Y.ownsRow wi.heap.size 9 1 (.slice l5 d1 c5) d1 (((M.drop (p + 1)).take d1).map Value.string) := oO
                     have oI : Y.ownsRow wi.heap.size 3 1 (.slice l7 d c7) d ((((List.range' s m).drop p).take d).map intV) := ho5
                     obtain ⟨v, hv⟩ : ∃ v : TNode, v = ⟨false, l5, d1, c5, (M.drop (p + 1)).take d1, l7, d, c7, (((List.range' s m).drop p).take d).map fun (u : Nat) => (u : Int)⟩ := ⟨_, rfl⟩
                     obtain ⟨VA, hVA⟩ : ∃ VA, Y.alloc (.cells #[.bool false, .slice l5 d1 c5, .slice l7 d c7] 72) = VA := ⟨_, rfl⟩
                     have bYA : Below Y.heap.size Y VA := by rw [← hVA]; exact (Below.refl _ _).alloc (Nat.le_refl _) _
                     have XA : Hid (Box VA Y.heap.size 72 #[.bool v.lf, .slice v.ka v.kn v.kc, .slice v.ia v.im v.ic]) := by unfold Hid; rw [hv, ← hVA]; exact Box.new _ _ _
                     have BA : Hid (Below wi.heap.size wi VA) := b5.trans (bYA.mono b5.size)
                     have OV : Hid (OwnN1 VA wi.heap.size VA.heap.size v) := by
                       rw [hv]
                       have o1 := own_below oK bYA
                       have o2 := own_below oI bYA
                       exact ⟨o1, by rw [List.map_map]; exact o2, own_blk o1, own_blk o2⟩
                     have SVV : Hid (saysN v = (false, (M.drop (p + 1)).take d1, (((List.range' s m).drop p).take d).map fun (u : Nat) => (u : Int))) := by rw [hv]; rfl
                     have OA : Hid (VA.ownsRow w.heap.size 72 3 (.slice na q nc) q (cellsN vs)) := (HB.out.below BA.out).row
                     have SA : w.heap.size ≤ VA.heap.size := (HB.out.below BA.out).bel.size
                     have cY : Y.cell? ⟨tb, 1, none⟩ = some (.slice na q nc) := far6 b5 tb1
                     have cA : VA.cell? ⟨tb, 1, none⟩ = some (.slice na q nc) := far6 BA.out tb1
                     clear hv oK oI oO bYA ho5 hg5 hx5 b5)
                  | (refine step_app_any _ (by rfl) (.tmp 88) (.tmp 94) 70 (by rfl) wi.heap.size 3 iI (.int .i64 0) 1 8 Try.underlying70 II.out IZ0.out IZ1.out IZ2.out rfl (by omega) (.slice (some ⟨w5.heap.size, 0, none⟩) 0 0) 0 [] (by rfl) I5.out (some ⟨lb, p, none⟩) d (lc - p) ((((List.range' s m).drop p).take d).map intV) (by rfl) (fun ex => by cases ex) HIN.out (fun ad e => by cases e; exact HNI.out _ B5.out) HI1.out (by unfold maxLen; omega) (by omega) B5.out.size ?_
                     intro l7 c7 Y ho5 hg5 hx5
                     rw [Nat.zero_add, List.nil_append] at ho5
                     rw [ob_slice] at hg5
                     have b5 : Below wi.heap.size wi Y := B5.out.grown hg5 B5.out.size (fun g e => (own_blk I5.out g e).1)
                     have oO := own_cross K5.out I5.out hg5 (by decide)
                     have oK : Y.ownsRow wi.heap.size 9 1 (.slice l5 d1 c5) d1 (((M.drop (p + 1)).take d1).map Value.string) := oO
                     have oI : Y.ownsRow wi.heap.size 3 1 (.slice l7 d c7) d ((((List.range' s m).drop p).take d).map intV) := ho5
                     obtain ⟨v, hv⟩ : ∃ v : TNode, v = ⟨false, l5, d1, c5, (M.drop (p + 1)).take d1, l7, d, c7, (((List.range' s m).drop p).take d).map fun (u : Nat) => (u : Int)⟩ := ⟨_, rfl⟩
                     obtain ⟨VA, hVA⟩ : ∃ VA, Y.alloc (.cells #[.bool false, .slice l5 d1 c5, .slice l7 d c7] 72) = VA := ⟨_, rfl⟩
                     have bYA : Below Y.heap.size Y VA := by rw [← hVA]; exact (Below.refl _ _).alloc (Nat.le_refl _) _
                     have XA : Hid (Box VA Y.heap.size 72 #[.bool v.lf, .slice v.ka v.kn v.kc, .slice v.ia v.im v.ic]) := by unfold Hid; rw [hv, ← hVA]; exact Box.new _ _ _
                     have BA : Hid (Below wi.heap.size wi VA) := b5.trans (bYA.mono b5.size)
                     have OV : Hid (OwnN1 VA wi.heap.size VA.heap.size v) := by
                       rw [hv]
                       have o1 := own_below oK bYA
                       have o2 := own_below oI bYA
                       exact ⟨o1, by rw [List.map_map]; exact o2, own_blk o1, own_blk o2⟩
                     have SVV : Hid (saysN v = (false, (M.drop (p + 1)).take d1, (((List.range' s m).drop p).take d).map fun (u : Nat) => (u : Int))) := by rw [hv]; rfl
                     have OA : Hid (VA.ownsRow w.heap.size 72 3 (.slice na q nc) q (cellsN vs)) := (HB.out.below BA.out).row
                     have SA : w.heap.size ≤ VA.heap.size := (HB.out.below BA.out).bel.size
                     have cY : Y.cell? ⟨tb, 1, none⟩ = some (.slice na q nc) := far6 b5 tb1
                     have cA : VA.cell? ⟨tb, 1, none⟩ = some (.slice na q nc) := far6 BA.out tb1
                     clear hv oK oI oO bYA ho5 hg5 hx5 b5)
                  | (refine step_app_any _ (by rfl) (.tmp 78) (.tmp 97) 25 (by rfl) w.heap.size 72 iN (.agg #[.bool false, .slice none 0 0, .slice none 0 0]) 3 56 Try.underlying25 HI.out HZ0.out HZ1.out HZ2.out rfl (by omega) (.slice na q nc) q (cellsN vs) (by rfl) OA.out (some ⟨Y.heap.size, 0, none⟩) 1 1 (cN v) (by rfl) (fun ex => by cases ex) rfl (by exact newsV XA.out) (oneV v) (by unfold maxLen; omega) (by omega) SA ?_
                     intro l2 lc2 w6 ho hgx hax
                     rw [ob_slice] at hgx
                     have HO6 : Hid (w6.ownsRow w.heap.size 72 3 (.slice l2 (q + 1) lc2) (q + 1) (cellsN (vs ++ [v]))) := by unfold Hid; rw [cellsN_app]; exact ho
                     have HG6 : Hid (VA.grownBy w6 (ob na)) := hgx
                     have X6 : Box w6 tb 27 #[.int .i64 0, .slice na q nc] := (HB.out.below BA.out).box.grown hgx (own_neT OA.out (HB.out.below BA.out).box)
                     have c61 : w6.cell? ⟨tb, 1, none⟩ = some (.slice na q nc) := X6.cell 1
                     have t61 := X6.thaw 1
                     clear ho hgx hax X6))
                all_goals
                  obtain ⟨W, hW⟩ : ∃ W, w6.setCell ⟨tb, 1, none⟩ (.slice l2 (q + 1) lc2) = W := ⟨_, rfl⟩
                  have HWW : Hid (w6.setCell ⟨tb, 1, none⟩ (.slice l2 (q + 1) lc2) = W) := hW
                  have NB : Hid (∃ bs' : Nat → Nat, BuSt w W w.heap.size tb (q + 1) l2 lc2 (vs ++ [v]) bs' ((leafL P keys ++ L0 ++ (upL P5 M (List.range' s m)).take (j' + 1)).map sayB)) := by
                    obtain ⟨bs', h⟩ := HB.out.push BA.out OV.out (Nat.le_refl _) BA.out.size HG6.out HO6.out hW (Nat.le_refl _) (by have := TB.out; omega)
                    rw [SVV.out, HSAY.out] at h
                    exact ⟨bs', h⟩
                  have NL := HL.out.push HB.out BA.out OV.out HG6.out hW
                  have NS := HS.out.push HB.out BA.out OV.out HG6.out hW
                  have NU := HU.out.push HB.out BA.out OV.out HG6.out hW
                  have NV := HV.out.push HB.out BA.out OV.out HG6.out hW
                  have NQ : Hid (wq.heap.size ≤ W.heap.size) := by unfold Hid; rw [← hW]; exact Nat.le_trans HBQ.out (Nat.le_trans BA.out.size (by have := HG6.out.size; simpa using this))
                  have NLh : Hid (LsT W w.heap.size 3 (some ⟨lb, 0, none⟩) m lc ((List.range' s m).map intV) (vs ++ [v]) ∧ LsT W w.heap.size 9 (some ⟨sb, 0, none⟩) m sc (M.map Value.string) (vs ++ [v]) ∧ LsT W wq.heap.size 3 ua j' uc ((List.range' k j').map intV) (vs ++ [v]) ∧ LsT W wq.heap.size 9 va j' vc (((upM P5 M).take j').map Value.string) (vs ++ [v])) := ⟨NL, NS, NU, NV⟩
                  clear hW NL NS NU NV
                  go_wp2
                  go_meet
                  case rel =>
                    obtain ⟨bs', h⟩ := NB.out
                    rw [HWW.out]
                    exact ⟨l2, lc2, v, bs', h, NLh.out.1, NLh.out.2.1, NLh.out.2.2.1, NLh.out.2.2.2, NQ.out⟩
              case rest =>
                obtain ⟨l2, lc2, v, bs', HB2, HL2, HS2, HU2, HV2, HBQ2⟩ := hcut
                rename World => wc
                have tb2 : wc.cell? ⟨tb, 1, none⟩ = some (.slice l2 (q + 1) lc2) := HB2.out.box.cell 1
                obtain ⟨sv, hs⟩ : ∃ sv, M[p]? = some sv := ⟨_, List.getElem?_eq_getElem (by have := HM.out; omega)⟩
                have HUM : Hid ((((upM P5 M).take j').map Value.string) ++ [Value.string sv] = (((upM P5 M).take (j' + 1)).map Value.string)) := by
                  unfold Hid
                  rw [List.take_add_one, upM_at HD.out, HPJ.out, List.map_append]
                  have e : ((M.drop p).take d).getD 0 ⟨#[]⟩ = sv := by
                    rw [List.getD_eq_getElem?_getD, List.getElem?_take_of_lt (by omega), List.getElem?_drop, Nat.add_zero, hs]; rfl
                  rw [e]; rfl
                have HRG : Hid ((List.range' k j').map intV ++ [Value.int .i64 (q : Int)] = (List.range' k (j' + 1)).map intV) := by
                  unfold Hid
                  rw [List.range'_concat, List.map_append, Nat.one_mul, HQ9.out]; rfl
                have HC0 : Hid (∀ U, LsT U w.heap.size 9 (some ⟨sb, 0, none⟩) m sc (M.map Value.string) (vs ++ [v]) → U.cell? ⟨sb, p, none⟩ = some (.string sv)) := by
                  intro U hU
                  have := hU.own.cellAt p (by omega)
                  rw [this, List.getElem?_map, hs]; rfl
                have HSM : Hid ((P5.take (j' + 1)).sum = p + d) := by
                  unfold Hid
                  rw [List.take_add_one, HD.out, List.sum_append, HPJ.out]; simp
                have HJL : Hid (j' + 1 ≤ P5.length) := by have := (List.getElem?_eq_some_iff.1 HD.out).1; exact this
                obtain ⟨VA, hVA⟩ : ∃ VA, wc.alloc (.cells #[.int .i64 (q : Int)] 3) = VA := ⟨_, rfl⟩
                have bA : Below wc.heap.size wc VA := by rw [← hVA]; exact (Below.refl _ _).alloc (Nat.le_refl _) _
                have XA : Box VA wc.heap.size 3 #[.int .i64 (q : Int)] := by rw [← hVA]; exact Box.new _ _ _
                have NA : Hid (∀ ad, some (⟨wc.heap.size, 0, none⟩ : Addr) = some ad → ∀ k u, ([.int .i64 (q : Int)] : List Value)[k]? = some u → VA.cell? (ad.add k) = some u) := by
                  intro ad ea k u hu
                  cases ea
                  cases k with
                  | zero => cases hu; exact XA.cell 0
                  | succ k => simp at hu
                have HBA := HB2.out.below bA
                have HLA := HL2.out.below bA
                have HSA := HS2.out.below bA
                have HUA := HU2.out.below bA
                have HVA := HV2.out.below bA
                have HBAh : Hid (BuSt w VA w.heap.size tb (q + 1) l2 lc2 (vs ++ [v]) bs' ((leafL P keys ++ L0 ++ (upL P5 M (List.range' s m)).take (j' + 1)).map sayB)) := HBA
                have HLAh : Hid (LsT VA w.heap.size 3 (some ⟨lb, 0, none⟩) m lc ((List.range' s m).map intV) (vs ++ [v])) := HLA
                have HSAh : Hid (LsT VA w.heap.size 9 (some ⟨sb, 0, none⟩) m sc (M.map Value.string) (vs ++ [v])) := HSA
                have HUAh : Hid (LsT VA wq.heap.size 3 ua j' uc ((List.range' k j').map intV) (vs ++ [v])) := HUA
                have HVAh : Hid (LsT VA wq.heap.size 9 va j' vc (((upM P5 M).take j').map Value.string) (vs ++ [v])) := HVA
                have sA : wq.heap.size ≤ VA.heap.size := Nat.le_trans HBQ2.out bA.size
                clear hs bA XA HB2 HL2 HS2 HU2 HV2 HBQ2 HB HL HS HU HV HBQ tb1 HBA HLA HSA HUA HVA
                go_wp2_with (first
                  | (at_builtin; refine app_any _ rfl (.tmp 100) (.tmp 105) 70 rfl wq.heap.size 3 iI (.int .i64 0) 1 8 Try.underlying70 II.out IZ0.out IZ1.out IZ2.out rfl (by omega) (.slice ua j' uc) j' ((List.range' k j').map intV) rfl HUAh.out.own (some ⟨wc.heap.size, 0, none⟩) 1 1 [.int .i64 (q : Int)] rfl (fun ex => by cases ex) rfl NA.out (by intro u hu; simp at hu; subst hu; rfl) (by unfold maxLen; omega) (by omega) sA ?_
                     intro l3 c3 w3 ho3 hg3 hx3
                     rw [ob_slice] at hg3
                     have B3 := HBAh.out.app HUAh.out hg3 ALO.out.2.2
                     have U3 : LsT w3 wq.heap.size 3 l3 (j' + 1) c3 ((List.range' k (j' + 1)).map intV) (vs ++ [v]) := HUAh.out.app (by rw [← HRG.out]; exact ho3) (fun g e => by have := hx3 g e; rw [ob_slice] at this; exact this) HBAh.out.lists HBAh.out.len HBAh.out.hi
                     have L3 := HLAh.out.other hg3 (fun g e ex => by have h1 := ALO.out.1 g e; have h2 := (own_blk HUAh.out.own g ex).1; omega)
                     have S3 := HSAh.out.other hg3 (fun g e ex => by have h1 := ALO.out.2.1 g e; have h2 := (own_blk HUAh.out.own g ex).1; omega)
                     have V3 := HVAh.out.other hg3 (fun g e ex => by obtain ⟨cs, x⟩ := own_box HVAh.out.own e; exact own_neT HUAh.out.own x (by decide) ex)
                     have k0 : w3.cell? ⟨sb, p, none⟩ = some (.string sv) := HC0.out w3 S3
                     obtain ⟨VB, hVB⟩ : ∃ VB, w3.alloc (.cells #[.string sv] 9) = VB := ⟨_, rfl⟩
                     have bB : Below w3.heap.size w3 VB := by rw [← hVB]; exact (Below.refl _ _).alloc (Nat.le_refl _) _
                     have XB : Box VB w3.heap.size 9 #[.string sv] := by rw [← hVB]; exact Box.new _ _ _
                     have NB : Hid (∀ ad, some (⟨w3.heap.size, 0, none⟩ : Addr) = some ad → ∀ k u, ([.string sv] : List Value)[k]? = some u → VB.cell? (ad.add k) = some u) := by
                       intro ad ea k u hu
                       cases ea
                       cases k with
                       | zero => cases hu; exact XB.cell 0
                       | succ k => simp at hu
                     have HBBh : Hid (BuSt w VB w.heap.size tb (q + 1) l2 lc2 (vs ++ [v]) bs' ((leafL P keys ++ L0 ++ (upL P5 M (List.range' s m)).take (j' + 1)).map sayB)) := B3.below bB
                     have HLBh : Hid (LsT VB w.heap.size 3 (some ⟨lb, 0, none⟩) m lc ((List.range' s m).map intV) (vs ++ [v])) := L3.below bB
                     have HSBh : Hid (LsT VB w.heap.size 9 (some ⟨sb, 0, none⟩) m sc (M.map Value.string) (vs ++ [v])) := S3.below bB
                     have HUBh : Hid (LsT VB wq.heap.size 3 l3 (j' + 1) c3 ((List.range' k (j' + 1)).map intV) (vs ++ [v])) := U3.below bB
                     have HVBh : Hid (LsT VB wq.heap.size 9 va j' vc (((upM P5 M).take j').map Value.string) (vs ++ [v])) := V3.below bB
                     have sB : wq.heap.size ≤ VB.heap.size := Nat.le_trans sA (Nat.le_trans hg3.size bB.size)
                     clear ho3 hg3 hx3 B3 U3 L3 S3 V3 bB XB)
                  | (at_builtin; refine app_any _ rfl (.tmp 107) (.tmp 112) 23 rfl wq.heap.size 9 iS (.string ⟨#[]⟩) 1 16 Try.underlying23 JI.out JZ0.out JZ1.out JZ2.out rfl (by omega) (.slice va j' vc) j' (((upM P5 M).take j').map Value.string) rfl HVBh.out.own (some ⟨w3.heap.size, 0, none⟩) 1 1 [.string sv] rfl (fun ex => by cases ex) rfl NB.out (by intro u hu; simp at hu; subst hu; rfl) (by unfold maxLen; omega) (by omega) sB ?_
                     intro l4 c4 w4 ho4 hg4 hx4
                     rw [ob_slice] at hg4
                     have B4 : Hid (BuSt w w4 w.heap.size tb (k + (j' + 1)) l2 lc2 (vs ++ [v]) bs' ((leafL P keys ++ L0 ++ (upL P5 M (List.range' s m)).take (j' + 1)).map sayB)) := by
                       have h := HBBh.out.app HVBh.out hg4 ALO.out.2.2
                       rw [← HQ9.out] at h; exact h
                     have V4 : Hid (LsT w4 wq.heap.size 9 l4 (j' + 1) c4 (((upM P5 M).take (j' + 1)).map Value.string) (vs ++ [v])) := HVBh.out.app (by rw [← HUM.out]; exact ho4) (fun g e => by have := hx4 g e; rw [ob_slice] at this; exact this) HBBh.out.lists HBBh.out.len HBBh.out.hi
                     have L4 : Hid (LsT w4 w.heap.size 3 (some ⟨lb, 0, none⟩) m lc ((List.range' s m).map intV) (vs ++ [v])) := HLBh.out.other hg4 (fun g e ex => by have h1 := ALO.out.1 g e; have h2 := (own_blk HVBh.out.own g ex).1; omega)
                     have S4 : Hid (LsT w4 w.heap.size 9 (some ⟨sb, 0, none⟩) m sc (M.map Value.string) (vs ++ [v])) := HSBh.out.other hg4 (fun g e ex => by have h1 := ALO.out.2.1 g e; have h2 := (own_blk HVBh.out.own g ex).1; omega)
                     have U4 : Hid (LsT w4 wq.heap.size 3 l3 (j' + 1) c3 ((List.range' k (j' + 1)).map intV) (vs ++ [v])) := HUBh.out.other hg4 (fun g e ex => by obtain ⟨cs, x⟩ := own_box HUBh.out.own e; exact own_neT HVBh.out.own x (by decide) ex)
                     have Q4 : Hid (wq.heap.size ≤ w4.heap.size) := Nat.le_trans sB hg4.size
                     clear ho4 hg4 hx4))
                clear HBAh HLAh HSAh HUAh HVAh HBBh HLBh HSBh HUBh HVBh NA NB hVA hVB sA sB tb2 k0
                go_roundw
                case rel => exact ⟨j' + 1, p + d, vs ++ [v], l2, lc2, bs', l3, c3, l4, c4, HJL.out, HSM.out, by go_num, rfl, rfl, B4.out, L4.out, S4.out, U4.out, V4.out, Q4.out⟩
                case measure => simp [intOf]; omega
            · have hps : (P5.take j').sum ≤ P5.sum := by
                have e : (P5.take j').sum + (P5.drop j').sum = P5.sum := by rw [← List.sum_append, List.take_append_drop]
                omega
              have hpn : p = m := by have h1 := HPJ.out; have h2 := QS.out; omega
              have hjl : j' = P5.length := sum_pos_end P5 j' (fun d hd => by have := (QPos.out d hd).1; omega) hj (by rw [HPJ.out, QS.out]; exact hpn)
              have hql := QL.out
              have hlt' : ¬ (p : Int) < (m : Int) := by omega
              have B7 : Hid (BuSt w wi w.heap.size tb (k + j') na nc vs bs ((leafL P keys ++ (L0 ++ upL P5 M (List.range' s m))).map sayB)) := by
                have h := HB.out
                rw [List.take_of_length_le (by rw [upL_len]; omega), List.append_assoc] at h
                exact h
              have V7 : Hid (LsT wi w.heap.size 9 va j' vc ((upM P5 M).map Value.string) vs) := by
                have h := HV.out
                rw [List.take_of_length_le (by rw [upM_len]; omega)] at h
                exact ⟨own_low h.own ALO.out.2.2, h.apart⟩
              have U7 : Hid (LsT wi w.heap.size 3 ua j' uc ((List.range' k j').map intV) vs) := ⟨own_low HU.out.own ALO.out.2.2, HU.out.apart⟩
              have G7 : Hid (∀ qs L, Grown (List.range' k j') (upM P5 M) qs L → Grown (List.range j) (upM P keys) ((qs0 ++ List.range' k j') ++ qs) ((L0 ++ upL P5 M (List.range' s m)) ++ L)) := by
                intro qs L g
                have := HGR.out _ _ (QG.out _ qs L (by rw [List.length_range']; exact hjl) g)
                rw [List.append_assoc, List.append_assoc]; exact this
              have Q7 : Hid (qs0 ++ List.range' k j' = List.range' j (qs0 ++ List.range' k j').length) := by
                have h : qs0 ++ List.range' k j' = List.range' j (qs0.length + j') := by
                  have e : List.range' k j' = List.range' (j + qs0.length) j' := by rw [HK.out]
                  rw [e]
                  conv => lhs; arg 1; rw [HQ.out]
                  rw [List.range'_append_1]
                unfold Hid
                rw [List.length_append, List.length_range']; exact h
              have K7 : Hid (k + j' = j + (qs0 ++ List.range' k j').length) := by unfold Hid; rw [List.length_append, List.length_range', HK.out]; omega
              have LQ7 : Hid ((L0 ++ upL P5 M (List.range' s m)).length = (qs0 ++ List.range' k j').length) := by unfold Hid; rw [List.length_append, List.length_append, List.length_range', HLQ.out, upL_len, hjl]
              have M7 : Hid ((upM P5 M).length = j') := by unfold Hid; rw [upM_len, hjl]
              clear hps hpn hj HB HL HS HU HV HBQ HPJ hlt
              go_wp2_with fail
              go_roundw
              case rel => exact ⟨j', k, k + j', upM P5 M, vs, na, nc, bs, ua, uc, va, vc, qs0 ++ List.range' k j', L0 ++ upL P5 M (List.range' s m), rfl, rfl, by omega, by omega, rfl, by omega, M7.out, K7.out, Q7.out, LQ7.out, G7.out, B7.out, U7.out, V7.out⟩
              case measure => simp [lenV]; omega
        · have hm1' : ¬ (1 : Int) < (m : Int) := by omega
          obtain rfl : m = 1 := by omega
          rcases own_form HL.out.own with ⟨e, h0⟩ | ⟨lb, lcap, e, hlb, hlbs⟩
          · omega
          simp only [Value.slice.injEq] at e
          obtain ⟨rfl, _, rfl⟩ := e
          have k0 : wq.cell? ⟨lb, 0, none⟩ = some (.int .i64 (s : Int)) := (HL.out.own.cellAt 0 (by omega)).trans rfl
          have z0 := HB.out.box.cell 0
          have z1 := HB.out.box.cell 1
          have zt := HB.out.box.thaw 0
          have HTW : tb ≠ w.heap.size := by have := TB.out; omega
          obtain ⟨W1, hW1⟩ : ∃ W1, wq.setCell ⟨tb, 0, none⟩ (.int .i64 (s : Int)) = W1 := ⟨_, rfl⟩
          have XT : Hid (Box W1 tb 27 #[.int .i64 (s : Int), .slice na k nc]) := by unfold Hid; rw [← hW1]; exact HB.out.box.set 0 _
          have XR : Hid (Box W1 w.heap.size 27 #[.int .i64 0, .slice none 0 0]) := by unfold Hid; rw [← hW1]; exact HB.out.res.setOther _ _ HTW.symm
          have HT : Hid (OwnTr W1 w.heap.size na nc bs vs) := by unfold Hid; rw [← hW1]; exact (HB.out.tree (by omega) (Nat.le_refl _)).set HB.out.box
          have BW : Hid (Below w.heap.size w W1) := by unfold Hid; rw [← hW1]; exact HB.out.bel.setCell (by show w.heap.size ≤ tb; have := TB.out; omega) _
          have HVL : Hid (vs.length = k) := HB.out.len
          have HSY : Hid (TreeIs keys (vs.map saysN)) := by
            have g := HGR.out [] [] (.one (by simp))
            rw [List.append_nil, List.append_nil] at g
            refine ⟨qs0, L0, ?_, ?_, ?_⟩
            · rw [HPP.out, ← HJ.out, leafM_some (by rw [HKL.out]; exact h0), ← leafP_some (by rw [HKL.out]; exact h0), HPP.out]; exact g
            · rw [HPP.out, ← HJ.out, HLQ.out]; exact HQ.out
            · rw [HB.out.is]; unfold leavesL; rw [HPP.out]
          have y0 := XT.out.cell 0
          have y1 := XT.out.cell 1
          have r0 := XR.out.cell 0
          have r1 := XR.out.cell 1
          have t0 := XR.out.thaw 0
          have t1 := XR.out.thaw 1
          clear HB HL HS HGR HQ HK HLQ hlb hlbs
          go_wp2
          refine retT Try.results50 rfl rfl (put2_box XR.out _ _) ⟨⟨na, nc, vs, bs, ?_, (HT.out.set XR.out).set (XR.out.set 0 _), HSY.out⟩, put2_below BW.out (Nat.le_refl _) _ _⟩
          rw [HVL.out, show s = k - 1 by omega]

end Go.Proofs.Ythnggpjgajkaeaa
