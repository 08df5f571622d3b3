/-
  The reference's ShaMac is the signature of bytes by a key. Condition: at most 500 bytes each.
-/
import Derived.Test.YtbejafbpipdbjaaDoorShaA
import Derived.Test.YtbejafbpipdbjaaDoorMacS
namespace Go.Proofs.YtbejafbpipdbjaaDoor
set_option maxRecDepth 4000
open Go.RowKit

/-- Two lists of bytes of the call's own, in blocks apart. -/
def Twin (B : Nat) (m n : List UInt8) (u v : Value) (w : World) : Prop := Own w B u m ∧ Own w B v n ∧ ∃ gi ci go co, u = .slice (some ⟨gi, 0, none⟩) m.length ci ∧ v = .slice (some ⟨go, 0, none⟩) n.length co ∧ gi ≠ go
theorem Twin.swap {B : Nat} {m n : List UInt8} {u v : Value} {w : World} (h : Twin B m n u v w) : Twin B n m v u w := by
  obtain ⟨h1, h2, gi, ci, go, co, e1, e2, e3⟩ := h
  exact ⟨h2, h1, go, co, gi, ci, e2, e1, Ne.symm e3⟩
/-- One of two lists has grown. -/
theorem Twin.push {B : Nat} {m n m' : List UInt8} {u v : Value} {w w' : World} {o : Obj} {g c : Nat} (h : Twin B m n u v w) {n' : Nat} (hn : m'.length = n') (h1 : Own w' B (.slice (some ⟨g, 0, none⟩) n' c) m') (hg : (w.alloc o).grownBy w' u.ownBlock) (ho : u.ownBlock = some g ∨ g = w.heap.size + 1) :
    Twin B m' n (.slice (some ⟨g, 0, none⟩) n' c) v w' := by
  subst hn
  obtain ⟨hu, hv, gi, ci, go, co, rfl, rfl, hne⟩ := h
  have hlt := (World.ownsRow.lt hv go rfl).2
  refine ⟨h1, (hv.alloc o).keep hg (.inr (by simp [Value.ownBlock]; omega)), g, c, go, co, rfl, rfl, ?_⟩
  rcases ho with e | e
  · simp [Value.ownBlock] at e; omega
  · omega

theorem twin_new (w : World) : Twin w.heap.size [] [] (.slice (some ⟨w.heap.size, 0, none⟩) 0 0) (.slice (some ⟨w.heap.size + 1, 0, none⟩) 0 0) ((w.alloc (.cells #[] 5)).alloc (.cells #[] 5)) := by
  have h1 : Own ((w.alloc (.cells #[] 5)).alloc (.cells #[] 5)) w.heap.size (.slice (some ⟨(w.alloc (.cells #[] 5)).heap.size, 0, none⟩) 0 0) [] := own_empty (by simp)
  rw [show (w.alloc (.cells #[] 5)).heap.size = w.heap.size + 1 from by simp] at h1
  exact ⟨(own_empty (Nat.le_refl _)).alloc _, h1, _, _, _, _, rfl, rfl, by omega⟩
/-- A key that is filled up. -/
def padK (j : List UInt8) (z : Nat) : List UInt8 := j ++ List.replicate z 0
theorem padK_length (j : List UInt8) (z : Nat) : (padK j z).length = j.length + z := by simp [padK]
theorem padK_zero (j : List UInt8) : padK j 0 = j := by simp [padK]
theorem padK_succ (j : List UInt8) (z : Nat) : padK j z ++ [0] = padK j (z + 1) := by simp [padK, List.replicate_succ']

set_option maxHeartbeats 8000000 in
set_option maxRecDepth 100000 in
theorem specShaMac_small (A A' : Option Addr) (c c' : Nat) (k l : List UInt8) (w : World) (hk : k.length ≤ 500) (hl : l.length ≤ 500) (h : Has w w.heap.size A k) (h' : Has w w.heap.size A' l) :
    Calls Tryd.prog 80 #[.slice A k.length c, .slice A' l.length c'] w fun e w' => ∃ v, e = .returned v ∧ Own w' w.heap.size v (mac k l) ∧ Below w.heap.size w w' := by
  have hsk := sha_length k
  have HM : Hid (mac k l = sha ((key64 k).map (· ^^^ 92) ++ sha ((key64 k).map (· ^^^ 54) ++ l))) := Lib.hid rfl
  have HKl := Lib.hid (key64_length k)
  have HK0 := Lib.hid (h.kept (w' := w.alloc (.cells #[] 5)) fun p hp => World.cell?_of_block (Below.heap_alloc w _ p.block hp))
  clear h
  have hlt1 : ∀ q, (Value.slice (some ⟨w.heap.size, 0, none⟩) 0 0).ownBlock = some q → w.heap.size ≤ q := fun q hq => by simp [Value.ownBlock] at hq; omega
  rcases Nat.lt_or_ge 64 k.length with hlt | hlt
  focus
    have HK : Hid (key64 k = padK (sha k) (64 - (sha k).length)) := Lib.hid (by unfold key64; rw [if_pos hlt]; rfl)
    go_enter Tryd.func80, Tryd.ntmps80
    go_wp2_with (at_builtin; refine wpList_pushAll rfl (.tmp 18) (.tmp 19) rfl w.heap.size _ [] rfl (own_empty (Nat.le_refl _)) _ A c k rfl HK0.out (by simp; omega) (by simp) ?_; intro v1 w1 ho1 hg1; obtain ⟨A1, c1, hv1, -, hh1⟩ := ho1.has; rw [List.nil_append] at hv1 hh1; subst hv1)
    refine (l1Sum_any A1 c1 k w1 (by omega) hh1).mono ?_
    rintro e w2 ⟨v2, rfl, ho2, hb2⟩
    have hb1 : Below w.heap.size w w1 := ((Below.refl _ w).alloc (Nat.le_refl _) _).grown hg1 (by simp) hlt1
    have hbj : Below w.heap.size w w2 := hb1.trans (hb2.mono hb1.size)
    have hoj : Own w2 w.heap.size v2 (sha k) := by
      refine ⟨ho2.1, ?_⟩
      rcases ho2.2 with hn | ⟨g, cap, cur, e, hg, rest⟩
      · exact .inl hn
      · exact .inr ⟨g, cap, cur, e, Nat.le_trans hb1.size hg, rest⟩
    have hj64 : (sha k).length ≤ 64 := by omega
    generalize sha k = j at *
    clear ho1 hg1 hh1 hb1 hb2 ho2
    go_wp2_with fail
  rotate_left
  focus
    obtain ⟨j, hjk⟩ : ∃ j, k = j := ⟨_, rfl⟩
    have HK : Hid (key64 k = padK j (64 - j.length)) := Lib.hid (by rw [← hjk]; unfold key64; rw [if_neg (by omega)]; rfl)
    have HJ := Lib.hid hjk
    clear hjk
    go_enter Tryd.func80, Tryd.ntmps80
    go_wp2_with (at_builtin; refine wpList_pushAll rfl (.tmp 18) (.tmp 19) rfl w.heap.size _ [] rfl (own_empty (Nat.le_refl _)) _ A c k rfl HK0.out (by simp; omega) (by simp) ?_; intro v2 w2 ho1 hg1; obtain ⟨A1, c1, hv1, -, hh1⟩ := ho1.has; rw [List.nil_append] at hv1 hh1; subst hv1)
    have hbj : Below w.heap.size w w2 := ((Below.refl _ w).alloc (Nat.le_refl _) _).grown hg1 (by simp) hlt1
    have hoj : Own w2 w.heap.size (.slice A1 k.length c1) j := by rw [← HJ.out]; exact ho1
    have hj64 : j.length ≤ 64 := by rw [← HJ.out]; exact hlt
    clear ho1 hg1 hh1
  all_goals
    obtain ⟨kk, hkk⟩ : ∃ kk, key64 k = kk := ⟨_, rfl⟩
    rw [hkk] at HM HKl HK
    clear hkk hlt1 HK0
    rw [← padK_zero j] at hoj
    go_loopw [5] (fun v wr => ∃ z : Nat, z ≤ 64 - j.length ∧ Own wr w.heap.size v (padK j z) ∧ Below w.heap.size w wr) (fun v _ => 64 - (match v with | .slice _ n _ => n | _ => 0))
    case atStart => exact ⟨0, by omega, hoj, hbj⟩
    case round =>
      clear hoj hbj
      obtain ⟨z, hz, hown, hbel⟩ := hrel
      have hws := hbel.size
      obtain ⟨A3, c3, hv, -, h3⟩ := hown.has
      have hpl := padK_length j z
      obtain ⟨m, hm⟩ : ∃ m, j.length + z = m := ⟨_, rfl⟩
      rw [hm] at hpl
      rw [hpl] at hv
      subst hv
      by_cases hlt2 : z < 64 - j.length
      · have hm64 : m < 64 := by omega
        have HS := Lib.hid (padK_succ j z)
        go_wp2_with (at_builtin; refine wpList_push1 rfl (.tmp 29) (.tmp 30) rfl w.heap.size _ (padK j z) rfl hown 0 wr.heap.size rfl rfl (by omega) (by omega) ?_; intro g4 c4 w4 ho4 hg4)
        have hb4 : Below w.heap.size w w4 := (hbel.alloc hws _).grown hg4 (by simp; omega) (fun k hk => (World.ownsRow.lt hown k hk).1)
        rw [HS.out, hpl] at ho4
        clear hg4 hown h3
        go_wp2
        go_roundw
        case rel => exact ⟨z + 1, by omega, ho4, hb4⟩
        case measure => simp; omega
      · obtain rfl : z = 64 - j.length := by omega
        obtain rfl : m = 64 := by omega
        rw [← HK.out] at h3
        have hkl := HKl.out
        clear hown hpl hm hz hlt2 HK hj64
        obtain ⟨W9, hW9⟩ : ∃ W9, W9 = wr := ⟨_, rfl⟩
        subst hW9
        go_wp2_with fail
        go_loopw [6, 7, 8] (fun u v i wq => ∃ t : Nat, t ≤ 64 ∧ i = .int .i64 t ∧ Twin W9.heap.size ((kk.take t).map (· ^^^ 54)) ((kk.take t).map (· ^^^ 92)) u v wq ∧ Below W9.heap.size W9 wq) (fun _ _ i _ => 64 - (intOf i).toNat)
        case atStart => exact ⟨0, by omega, rfl, twin_new W9, ((Below.refl _ W9).alloc (Nat.le_refl _) _).alloc (by simp) _⟩
        case round =>
          obtain ⟨t, ht, rfl, htw, hbl⟩ := hrel
          have hwz := hbl.size
          by_cases hlt3 : t < 64
          · obtain ⟨b, o, x, rfl, hbB, hx, hc⟩ := h3.spot (k := t) (by omega)
            have d1 := (hbl.cell (p := ⟨b, o + t, none⟩) hbB).trans hc
            have x1 : bits .xor .u8 (x.toNat : Int) 54 = ((x ^^^ 54).toNat : Int) := xor8 x 54
            have x2 : bits .xor .u8 (x.toNat : Int) 92 = ((x ^^^ 92).toNat : Int) := xor8 x 92
            have HX1 := Lib.hid (mapTake kk (· ^^^ 54) t x hx)
            have HX2 := Lib.hid (mapTake kk (· ^^^ 92) t x hx)
            have l1 : ((kk.take t).map (· ^^^ 54)).length ≤ 64 := by rw [List.length_map, List.length_take]; omega
            have l2 : ((kk.take t).map (· ^^^ 92)).length ≤ 64 := by rw [List.length_map, List.length_take]; omega
            generalize (kk.take t).map (· ^^^ 54) = m1 at *
            generalize (kk.take t).map (· ^^^ 92) = m2 at *
            generalize x ^^^ 54 = y1 at *
            generalize x ^^^ 92 = y2 at *
            have HC := Lib.hid hc
            clear hx hc
            go_wp2_with (first
              | (at_builtin; refine wpList_push1L rfl (.tmp 38) (.tmp 44) rfl W9.heap.size _ m1 rfl htw.1 y1 wr.heap.size rfl rfl (by omega) (by omega) ?_; intro g4 c4 w4 ho4 hg4 hor4; have htw4 := htw.push (m' := m1 ++ [y1]) (by simp) ho4 hg4 hor4; have hb4 : Below W9.heap.size W9 w4 := (hbl.alloc hwz _).grown hg4 (by simp; omega) (fun q hq => (World.ownsRow.lt htw.1 q hq).1); have d4 := (hb4.cell (p := ⟨b, o + t, none⟩) hbB).trans HC.out; have hz4 := hb4.size; clear ho4 hg4 hor4)
              | (at_builtin; refine wpList_push1L rfl (.tmp 46) (.tmp 52) rfl W9.heap.size _ m2 rfl htw4.2.1 y2 w4.heap.size rfl rfl (by omega) (by omega) ?_; intro g5 c5 w5 ho5 hg5 hor5))
            have htw5 := (htw4.swap.push (m' := m2 ++ [y2]) (by simp) ho5 hg5 hor5).swap
            have hb5 : Below W9.heap.size W9 w5 := (hb4.alloc hz4 _).grown hg5 (by simp; omega) (fun q hq => (World.ownsRow.lt htw4.2.1 q hq).1)
            rw [HX1.out, HX2.out] at htw5
            clear htw htw4 d1 d4 x1 x2 ho5 hg5 hor5 hb4
            go_wp2
            go_roundw
            case rel => exact ⟨t + 1, by omega, by go_num, htw5, hb5⟩
            case measure => simp [intOf]; omega
          · obtain rfl : t = 64 := by omega
            rw [show ((64 : Nat) : Int) = 64 from rfl]
            rw [List.take_of_length_le (by omega)] at htw
            have l1 : (kk.map (· ^^^ 54)).length = 64 := by rw [List.length_map, hkl]
            have l2 : (kk.map (· ^^^ 92)).length = 64 := by rw [List.length_map, hkl]
            generalize kk.map (· ^^^ 54) = m1 at *
            generalize kk.map (· ^^^ 92) = m2 at *
            obtain ⟨ml, hml⟩ : ∃ ml, m1 ++ l = ml := ⟨_, rfl⟩
            have hmll : ml.length ≤ 564 := by rw [← hml, List.length_append]; omega
            have HML := Lib.hid hml
            rw [hml] at HM
            have hsl := sha_length ml
            have CL := Lib.hid fun A c W (hh : Has W W.heap.size A ml) => l1Sum_any A c ml W (by omega) hh
            generalize sha ml = s1 at *
            obtain ⟨ms, hms⟩ : ∃ ms, m2 ++ s1 = ms := ⟨_, rfl⟩
            have hmsl : ms.length ≤ 96 := by rw [← hms, List.length_append]; omega
            have HMS := Lib.hid hms
            have hbs : m2.length + s1.length ≤ 1000000000 := by omega
            rw [hms] at HM
            have HL' : Hid (Has wr w.heap.size A' l) := Lib.hid ((h'.below hbel).below (hbl.mono hws))
            obtain ⟨hti, hto, gi, ci, go, co, e1, e2, hne⟩ := htw
            have HNE : Hid (u7.ownBlock ≠ u6.ownBlock) := Lib.hid (by rw [e1, e2]; simp [Value.ownBlock]; omega)
            clear hml hms e1 e2 hne h3 h' hsl
            go_wp2_with (at_builtin; refine wpList_pushAll rfl (.tmp 55) (.tmp 56) rfl W9.heap.size u6 m1 rfl hti w.heap.size A' c' l rfl HL'.out (by omega) (by omega) ?_; intro v6 w6 ho6 hg6; rw [HML.out] at ho6; obtain ⟨A6, c6, hv6, -, hh6⟩ := ho6.has; subst hv6)
            have hb6 : Below W9.heap.size W9 w6 := hbl.grown hg6 hwz (fun q hq => (World.ownsRow.lt hti q hq).1)
            have hoo6 := hto.keep hg6 (.inr HNE.out)
            refine (CL.out A6 c6 w6 hh6).mono ?_
            rintro e w7 ⟨v7, rfl, ho7, hb7⟩
            obtain ⟨A7, c7, hv7, -, hh7⟩ := ho7.has
            subst hv7
            have hoo7 := hoo6.below hb7 (Nat.le_refl _)
            have hb7' : Below W9.heap.size W9 w7 := hb6.trans (hb7.mono hb6.size)
            have hz7 := hb7'.size
            clear ho6 hg6 hh6 hti hto hoo6 hb6 hb7 ho7 CL
            go_wp2_with (at_builtin; refine wpList_pushAll rfl (.tmp 54) (.tmp 58) rfl W9.heap.size u7 m2 rfl hoo7 w7.heap.size A7 c7 s1 rfl hh7 hbs hz7 ?_; intro v8 w8 ho8 hg8; rw [HMS.out] at ho8; obtain ⟨A8, c8, hv8, -, hh8⟩ := ho8.has; subst hv8)
            have hb8 : Below W9.heap.size W9 w8 := hb7'.grown hg8 hz7 (fun q hq => (World.ownsRow.lt hoo7 q hq).1)
            refine (l1Sum_any A8 c8 ms w8 (by omega) hh8).mono ?_
            rintro e w9 ⟨v9, rfl, ho9, hb9⟩
            have hb9' : Below w.heap.size w w9 := hbel.trans ((hb8.trans (hb9.mono hb8.size)).mono hws)
            have hz8 := hb8.size
            have ho10 : Own w9 w.heap.size v9 (mac k l) := by
              rw [HM.out]
              refine ⟨ho9.1, ?_⟩
              rcases ho9.2 with hn | ⟨g, cap, cur, e, hg, rest⟩
              · exact .inl hn
              · exact .inr ⟨g, cap, cur, e, by omega, rest⟩
            clear ho9 hb9 hb8 ho8 hg8 hh8 hoo7
            go_wp2
            go_ret
            exact ⟨_, rfl, ho10, hb9'⟩
end Go.Proofs.YtbejafbpipdbjaaDoor
