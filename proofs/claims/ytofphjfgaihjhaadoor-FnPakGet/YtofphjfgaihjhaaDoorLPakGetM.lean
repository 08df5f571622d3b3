/-
  The law FnPakGet returns true for every list of bytes to draw from. Condition: the four errors are not nil.
-/
import Derived.Test.YtofphjfgaihjhaaDoorDrawTurn
import Derived.Test.YtofphjfgaihjhaaDoorDrawPak
import Derived.Test.YtofphjfgaihjhaaDoorPakSP
import Derived.Test.YtofphjfgaihjhaaDoorPakM1
import Derived.Test.YtofphjfgaihjhaaDoorPakM2
import Derived.Test.YtofphjfgaihjhaaDoorEaB
import Derived.Test.YtofphjfgaihjhaaDoorEaOk
namespace Go.Proofs.YtofphjfgaihjhaaDoor
open Go.RowKit

theorem OwnN.keepRd {w w' : World} {base g : Nat} {v : Value} {l : List (Int × Int)} (h : OwnN w base v l) (hg : w.grownBy w' (some g)) (hb : g < base) : OwnN w' base v l := by
  refine World.ownsRow.kept h hg ?_
  cases hv : v.ownBlock with
  | none => exact .inl rfl
  | some k =>
    refine .inr fun e => ?_
    have := (World.ownsRow.lt h k hv).1
    injection e with e
    omega
theorem pakPutB_le5 (l : List UInt8) : (pakPutB l).length ≤ 400 := by
  unfold pakPutB
  split
  · exact bitPutB_le _
  · simp
/-- One of three numbers, chosen by one of six. -/
theorem drawn_num {w : World} {H1 H2 j : Nat} {a d : Int} (h1 : w.heap[H1]? = some (.cells #[.int .i64 a, .int .i64 d, .int .i64 256] 3 (0, 0))) (h2 : w.heap[H2]? = some (.cells #[.int .i64 0, .int .i64 0, .int .i64 1, .int .i64 1, .int .i64 1, .int .i64 2] 3 (0, 0))) (hj : j < 6) :
    ∃ (e : Nat) (z : Int), e < 3 ∧ w.cell? ⟨H2, j, none⟩ = some (.int .i64 (e : Int)) ∧ w.cell? ⟨H1, e, none⟩ = some (.int .i64 z) := by
  have hc2 : ∀ v, (#[Value.int .i64 0, .int .i64 0, .int .i64 1, .int .i64 1, .int .i64 1, .int .i64 2] : Array Value)[j]? = some v → w.cell? ⟨H2, j, none⟩ = some v := fun v hv => by rw [cell_of_row w _ j _ _ _ h2]; exact hv
  have hc1 : ∀ e v, (#[Value.int .i64 a, .int .i64 d, .int .i64 256] : Array Value)[e]? = some v → w.cell? ⟨H1, e, none⟩ = some v := fun e v hv => by rw [cell_of_row w _ e _ _ _ h1]; exact hv
  match j, hj with
  | 0, _ => exact ⟨0, _, by omega, hc2 _ rfl, hc1 0 _ rfl⟩
  | 1, _ => exact ⟨0, _, by omega, hc2 _ rfl, hc1 0 _ rfl⟩
  | 2, _ => exact ⟨1, _, by omega, hc2 _ rfl, hc1 1 _ rfl⟩
  | 3, _ => exact ⟨1, _, by omega, hc2 _ rfl, hc1 1 _ rfl⟩
  | 4, _ => exact ⟨1, _, by omega, hc2 _ rfl, hc1 1 _ rfl⟩
  | 5, _ => exact ⟨2, _, by omega, hc2 _ rfl, hc1 2 _ rfl⟩
set_option maxRecDepth 100000 in
set_option maxHeartbeats 2000000 in
theorem drawPakGet_any (A : Option Addr) (c : Nat) (l : List UInt8) (w : World) (hs : l.length ≤ 1073741824) (hc : l.length ≤ c) (h : Has w w.heap.size A l) :
    Calls Tryd.prog 15 #[.slice A l.length c] w (DrewK w) := by
  go_enter Tryd.func15, Tryd.ntmps15
  go_wp2_with fail
  refine (l20Open_any A c l _ hs hc h).mono ?_
  rintro e w1 ⟨rfl, hr, b1⟩
  have hz1 := hr.lt
  clear h hs hc
  go_wp2_with fail
  refine (l20Bytes_any _ 0 30 _ rfl _ hr (by omega) (by omega)).mono ?_
  rintro e w2 ⟨v2, l2, p2, rfl, ho2, hl2, hp2, hr2, hg2⟩
  have B2 := below_of_grown b1 hg2 (Nat.le_refl _) b1.size
  obtain ⟨A2, c2, rfl, hc2, h2⟩ := ho2.has
  have hz2 := hr2.lt
  have CP := Lib.hid (specPakPut_any A2 c2 l2 w2 (by omega) hc2 h2)
  have hpl := pakPutB_le5 l2
  unfold PakOut at CP
  generalize pakPutB l2 = r at *
  clear hr b1 hg2 ho2 h2 hc2
  go_wp2_with fail
  refine CP.out.mono ?_
  rintro e w3 ⟨v3, rfl, ho3, b3⟩
  obtain ⟨A3, c3, rfl, hc3, h3⟩ := ho3.has
  have hr3 := hr2.below b3 hz2
  have B3 := B2.trans (b3.mono B2.size)
  have hz3 := hr3.lt
  have hne : ∀ b o, A3 = some ⟨b, o, none⟩ → b ≠ w.heap.size := fun b o e => by
    subst e
    rcases ho3.2 with ⟨e, -⟩ | ⟨g', cap, cur, e, hb, -⟩
    · cases e
    · injection e with e _ _
      injection e with e
      injection e with e1 _ _
      omega
  have HNE := Lib.hid hne
  clear hr2 b3 B2 CP ho3 hne
  go_wp2_with fail
  refine (pick_any _ p2 _ _ hr3 (by omega) (by omega) (by omega)).mono ?_
  rintro e w4 ⟨k4, rfl, hk4, -, hr4, hg4, -⟩
  have h4 := (h3.grown_ne (Nat.le_refl _) hg4 HNE.out).wider hg4.size
  have B4 := below_of_grown B3 hg4 (Nat.le_refl _) B3.size
  have hz4 := hr4.lt
  have hk4' : k4 < 4 := by have := hk4 (by omega); omega
  have h04 : k4 = 0 ∨ k4 = 1 ∨ k4 = 2 ∨ k4 = 3 := by omega
  have HP2 := Lib.hid hp2
  have HPL := Lib.hid hpl
  clear h3 hr3 B3 hg4 hk4 hk4' hpl
  rcases h04 with rfl | rfl | rfl | rfl
  · have CT := Lib.hid (l20Turn_any _ (p2 + 1) A3 c3 r w4 hr4 (by omega) h4 hc3 (by have := HPL.out; omega) HNE.out)
    clear hr4 h4 HNE
    go_wp2_with fail
    refine CT.out.mono ?_
    rintro e w5 ⟨A5, c5, l5, rfl, h5, hc5, hl5, -, hg5⟩
    have B5 := below_of_grown B4 hg5 (Nat.le_refl _) B4.size
    have HF : Hid (DrewK w (.returned (.slice A5 l5.length c5)) w5) := Lib.hid ⟨A5, c5, l5, rfl, h5, hc5, by have := HPL.out; omega, B5⟩
    clear h5 hc5 hl5 hg5 B5 B4 CT
    go_wp2_with fail
    go_ret
    exact HF.out
  · have ho0 : OwnN (w4.alloc (.cells #[] 46)) w4.heap.size (.slice (some ⟨w4.heap.size, 0, none⟩) 0 0) [] := ownN_empty (Nat.le_refl _)
    go_wp2_with fail
    refine (pick_any _ (p2 + 1) _ _ (hr4.alloc _) (by omega) (by omega) (by omega)).mono ?_
    rintro e w5 ⟨k5, rfl, hk5, -, hr5, hg5, -⟩
    have hk5' : k5 < 12 := by have := hk5 (by omega); omega
    have HK5 := Lib.hid hk5'
    have HB5 := Lib.hid (below_of_grown (B4.alloc B4.size (.cells #[] 46)) hg5 (Nat.le_refl _) (by have := B4.size; simp; omega))
    have HO5 := Lib.hid (ho0.keepRd hg5 hz4)
    have HR5 := Lib.hid hr5
    have HZ : Hid (w4.heap.size ≤ w5.heap.size) := Lib.hid (by have := hg5.size; simp at this; omega)
    have HZ4 := Lib.hid hz4
    clear ho0 hk5 hk5' hg5 hr5 hr4 B4 hz1 hz2 hz3 hz4 h4 hc3 HNE hl2 hp2
    go_wp2_with fail
    go_loopw [5, 6] (fun v i wr => ∃ k p' : Nat, ∃ ns : List (Int × Int), i = .int .i64 k ∧ OwnN wr w4.heap.size v ns ∧ ns.length + k ≤ 12 ∧ p' + 3 * k ≤ p2 + 40 ∧ Rdr wr w.heap.size p' ∧ Below w.heap.size w wr ∧ w4.heap.size ≤ wr.heap.size) (fun _ i _ => (intOf i).toNat)
    case atStart => exact ⟨k5, p2 + 1 + 1, [], rfl, HO5.out, by have := HK5.out; simp; omega, by have := HK5.out; omega, HR5.out, HB5.out, HZ.out⟩
    case round =>
      clear HO5 HR5 HB5 HZ
      obtain ⟨k, p', ns, rfl, hown, hlk, hpk, hrd, hB, hzz⟩ := hrel
      have HLK := Lib.hid (And.intro hlk hpk)
      clear hlk hpk
      obtain ⟨Ax, cx, rfl, hcx, hhx⟩ := hown.has
      have HZr := Lib.hid hzz
      clear hzz
      by_cases hlt : 0 < k
      · have hltI : 0 < (k : Int) ∧ (k : Int) ≤ 12 := by have := HLK.out; omega
        clear hcx hhx
        go_wp2_with fail
        refine (pick_any _ p' _ _ hrd (by have := HLK.out; have := HP2.out; omega) (by omega) (by omega)).mono ?_
        rintro e w6 ⟨a6, rfl, ha6, -, hr6, hg6, -⟩
        have hown6 := hown.keepRd hg6 HZ4.out
        have hB6 := below_of_grown hB hg6 (Nat.le_refl _) hB.size
        have hz6 : w4.heap.size ≤ w6.heap.size := Nat.le_trans HZr.out hg6.size
        clear hown hB hg6 hrd ha6
        go_wp2_with fail
        refine (pick_any _ (p' + 1) _ _ hr6 (by have := HLK.out; have := HP2.out; omega) (by omega) (by omega)).mono ?_
        rintro e w7 ⟨a7, rfl, ha7, -, hr7, hg7, -⟩
        have ha7' : (a7 : Int) < 6 := ha7 (by omega)
        have hown7 := hown6.keepRd hg7 HZ4.out
        have hB7 := below_of_grown hB6 hg7 (Nat.le_refl _) hB6.size
        have hz7 : w4.heap.size ≤ w7.heap.size := Nat.le_trans hz6 hg7.size
        clear hown6 hB6 hg7 hr6 ha7 hz6
        have hX1 : ((w7.alloc (.cells #[.int .i64 (a6 : Int), .int .i64 (257 + (a7 : Int)), .int .i64 256] 3)).alloc (.cells #[.int .i64 0, .int .i64 0, .int .i64 1, .int .i64 1, .int .i64 1, .int .i64 2] 3)).heap[w7.heap.size]? = some (.cells #[.int .i64 (a6 : Int), .int .i64 (257 + (a7 : Int)), .int .i64 256] 3 (0, 0)) := (Below.heap_alloc (w7.alloc (.cells #[.int .i64 (a6 : Int), .int .i64 (257 + (a7 : Int)), .int .i64 256] 3)) (.cells #[.int .i64 0, .int .i64 0, .int .i64 1, .int .i64 1, .int .i64 1, .int .i64 2] 3) w7.heap.size (by simp)).trans (heap_alloc_new w7 _)
        have hX2 : ((w7.alloc (.cells #[.int .i64 (a6 : Int), .int .i64 (257 + (a7 : Int)), .int .i64 256] 3)).alloc (.cells #[.int .i64 0, .int .i64 0, .int .i64 1, .int .i64 1, .int .i64 1, .int .i64 2] 3)).heap[w7.heap.size + 1]? = some (.cells #[.int .i64 0, .int .i64 0, .int .i64 1, .int .i64 1, .int .i64 1, .int .i64 2] 3 (0, 0)) := by
          have := heap_alloc_new (w7.alloc (.cells #[.int .i64 (a6 : Int), .int .i64 (257 + (a7 : Int)), .int .i64 256] 3)) (.cells #[.int .i64 0, .int .i64 0, .int .i64 1, .int .i64 1, .int .i64 1, .int .i64 2] 3)
          rw [show (w7.alloc (.cells #[.int .i64 (a6 : Int), .int .i64 (257 + (a7 : Int)), .int .i64 256] 3)).heap.size = w7.heap.size + 1 from by simp] at this
          exact this
        have HX := Lib.hid (And.intro hX1 hX2)
        have HOW8 := Lib.hid ((hown7.alloc (.cells #[.int .i64 (a6 : Int), .int .i64 (257 + (a7 : Int)), .int .i64 256] 3)).alloc (.cells #[.int .i64 0, .int .i64 0, .int .i64 1, .int .i64 1, .int .i64 1, .int .i64 2] 3))
        have HBW8 := Lib.hid ((hB7.alloc hB7.size (.cells #[.int .i64 (a6 : Int), .int .i64 (257 + (a7 : Int)), .int .i64 256] 3)).alloc (by have := hB7.size; simp; omega) (.cells #[.int .i64 0, .int .i64 0, .int .i64 1, .int .i64 1, .int .i64 1, .int .i64 2] 3))
        have HR8 := Lib.hid ((hr7.alloc (.cells #[.int .i64 (a6 : Int), .int .i64 (257 + (a7 : Int)), .int .i64 256] 3)).alloc (.cells #[.int .i64 0, .int .i64 0, .int .i64 1, .int .i64 1, .int .i64 1, .int .i64 2] 3))
        have HZ7 := Lib.hid hz7
        clear hown7 hB7 hr7 hz7 hX1 hX2
        go_wp2_with fail
        refine (pick_any _ (p' + 1 + 1) _ _ HR8.out (by have := HLK.out; have := HP2.out; omega) (by omega) (by omega)).mono ?_
        rintro e w8 ⟨j, rfl, hj, -, hr8, hg8, -⟩
        have hj6 : j < 6 := by have := hj (by omega); omega
        have k1 := (hg8.block w7.heap.size (by simp; omega) (fun e => by injection e with e; have := HZ4.out; have := HZ7.out; omega)).trans HX.out.1
        have k2 := (hg8.block (w7.heap.size + 1) (by simp) (fun e => by injection e with e; have := HZ4.out; have := HZ7.out; omega)).trans HX.out.2
        obtain ⟨ee, z, he3, hce, hcz⟩ := drawn_num k1 k2 hj6
        have HO8 := Lib.hid (HOW8.out.keepRd hg8 HZ4.out)
        have HB8 := Lib.hid (below_of_grown HBW8.out hg8 (Nat.le_refl _) HBW8.out.size)
        have HRR := Lib.hid hr8
        have HZ8 : Hid (w4.heap.size ≤ w8.heap.size) := Lib.hid (by have := hg8.size; have := HZ7.out; simp at *; omega)
        have hj6I : (j : Int) < 6 := by omega
        have he3I : (ee : Int) < 3 := by omega
        clear hj hr8 hg8 k1 k2 hj6 he3 HX HOW8 HBW8 HR8 ha7'
        go_wp2_with (at_builtin; refine wpList_pushN rfl (.tmp 28) (.tmp 43) rfl w4.heap.size (.slice Ax ns.length cx) ns rfl HO8.out z 9 w8.heap.size rfl rfl (by have := HLK.out; omega) HZ8.out ?_; intro gg cap w9 ho9 hg9)
        have HO9 := Lib.hid ho9
        have HB9 := Lib.hid ((HB8.out.alloc HB8.out.size (.cells #[.int .i64 z, .int .i64 9] 46)).grown hg9 (by have := HB8.out.size; simp; omega) (fun q hq => by have := (World.ownsRow.lt HO8.out q hq).1; have := HZ4.out; omega))
        have HR9 : Hid (Rdr w9 w.heap.size (p' + 1 + 1 + 1)) := Lib.hid ((HRR.out.alloc _).grown hg9 (fun q hq => by have := (World.ownsRow.lt HO8.out q hq).1; have := HZ4.out; omega))
        have HZ9 : Hid (w4.heap.size ≤ w9.heap.size) := Lib.hid (by have := hg9.size; have := HZ8.out; simp at *; omega)
        clear ho9 hg9 HO8 HB8 HRR HZ8 hce hcz
        go_wp2
        go_roundw
        case rel => exact ⟨k - 1, p' + 1 + 1 + 1, ns ++ [(z, 9)], by go_num, HO9.out, by have := HLK.out; simp; omega, by have := HLK.out; omega, HR9.out, HB9.out, HZ9.out⟩
        case measure => simp [intOf]; omega
      · have hk0 : ¬ (0 : Int) < (k : Int) := by omega
        have HO8 := Lib.hid hown
        have HB8 := Lib.hid hB
        clear hown hB hrd hcx hhx
        go_wp2_with (at_builtin; refine wpList_pushN rfl (.tmp 45) (.tmp 47) rfl w4.heap.size (.slice Ax ns.length cx) ns rfl HO8.out 256 9 wr.heap.size rfl rfl (by have := HLK.out; omega) HZr.out ?_; intro gg cap w9 ho9 hg9)
        have hB9 := (HB8.out.alloc HB8.out.size (.cells #[.int .i64 256, .int .i64 9] 46)).grown hg9 (by have := HB8.out.size; simp; omega) (fun q hq => by have := (World.ownsRow.lt HO8.out q hq).1; have := HZ4.out; omega)
        have CB := Lib.hid (specBitPut_any _ cap (ns ++ [(256, 9)]) w9 (by have := HLK.out; simp; omega) ho9.reads)
        rw [show (ns ++ [((256 : Int), (9 : Int))]).length = ns.length + 1 from by simp] at CB
        have hbl := bitPutB_le (ns ++ [((256 : Int), (9 : Int))])
        unfold PutOut at CB
        generalize bitPutB (ns ++ [((256 : Int), (9 : Int))]) = rr at *
        have HB9 := Lib.hid hB9
        clear ho9 hg9 hB9 HO8 HB8
        refine CB.out.mono ?_
        rintro e wx ⟨vx, rfl, hox, bx⟩
        obtain ⟨Ay, cy, rfl, hcy, hhy⟩ := hox.has
        have HF : Hid (DrewK w (.returned (.slice Ay rr.length cy)) wx) := Lib.hid ⟨Ay, cy, rr, rfl, hhy, hcy, by omega, HB9.out.trans (bx.mono HB9.out.size)⟩
        clear hox bx hcy hhy CB hbl
        go_wp2_with fail
        go_ret
        exact HF.out
  · have HF : Hid (DrewK w (.returned (.slice A3 r.length c3)) w4) := Lib.hid ⟨A3, c3, r, rfl, h4, hc3, by have := HPL.out; omega, B4⟩
    clear hr4 h4 HNE B4
    go_wp2_with fail
    go_ret
    exact HF.out
  · have HF : Hid (DrewK w (.returned (.slice A3 r.length c3)) w4) := Lib.hid ⟨A3, c3, r, rfl, h4, hc3, by have := HPL.out; omega, B4⟩
    clear hr4 h4 HNE B4
    go_wp2_with fail
    go_ret
    exact HF.out
end Go.Proofs.YtofphjfgaihjhaaDoor
namespace Go.Proofs.YtofphjfgaihjhaaDoor
open Go.RowKit

theorem getS (A : Option Addr) (c : Nat) (l : List UInt8) (w : World) (hs : l.length ≤ 1000) (h : Has w w.heap.size A l) : Calls Tryd.prog 16 #[.slice A l.length c] w (Unpacked (pakGetO l) w) :=
  (specPakGet_any A c l w (by omega) h).mono fun _ _ h => unpacked_of h
set_option maxRecDepth 100000 in
set_option maxHeartbeats 4000000 in
theorem fnPakGet_small (A : Option Addr) (c : Nat) (l : List UInt8) (w : World) (he : ErrsA w) (h : Has w w.heap.size A l) (hc : l.length ≤ c) (hs : l.length ≤ 1048576) :
    Calls Tryd.prog 4 #[.slice A l.length c] w fun e w' => e = .returned (.bool true) ∧ Below w.heap.size w w' := by
  have C1 := Lib.hid (drawPakGet_any A c l w (by omega) hc h)
  have HE : Hid (∀ W, Below w.heap.size w W → ErrsA W) := Lib.hid fun W hb => he.below hb
  have hl0 : ¬ ((1048576 : Int) < (l.length : Int)) := by omega
  clear h hs hc he
  go_enter Tryd.func4, Tryd.ntmps4
  go_wp2_with fail
  refine C1.out.mono ?_
  rintro e w1 ⟨A1, c1, l1, rfl, h1, hc1, hl1, B1⟩
  have CI := Lib.hid (getI A1 c1 l1 w1 hl1 h1 (HE.out _ B1))
  have CS := Lib.hid fun W hh => getS A1 c1 l1 W hl1 hh
  have CM := Lib.hid fun A c W hh (he : ErrsA W) => (implPakGet_any A c (l1 ++ [0]) W (by simp; omega) hh ⟨he.1, he.2.2.1, he.2.2.2⟩).mono fun _ _ h => unpacked_of h
  have HLE := Lib.hid (fun x (h : pakGetO l1 = some x) => pakGet_le h)
  have HMO := Lib.hid (fun x (h : pakGetO l1 = some x) => pakGet_more 0 h)
  have HL1 := Lib.hid hl1
  unfold Unpacked at CI CS CM
  clear C1 hl1
  cases hq : pakGetO l1 with
  | none =>
    rw [hq] at CI CS
    simp only [Option.getD_none, Option.isSome_none, List.length_nil] at CI CS
    clear hq HLE HMO CM
    go_wp2_with fail
    refine CI.out.mono ?_
    rintro e w2 ⟨A2, c2, rfl, -, h2, b2⟩
    have h12 := h1.carry b2 (Nat.le_refl _) b2.size
    have B2 := B1.trans (b2.mono B1.size)
    clear CI h1 B1 b2
    go_wp2_with fail
    refine (CS.out _ h12).mono ?_
    rintro e w3 ⟨A3, c3, rfl, -, h3, b3⟩
    have h23 := h2.carry b3 (Nat.le_refl _) b3.size
    have B3 := B2.trans (b3.mono B2.size)
    have CE := Lib.hid (eaBytes_same A2 A3 c2 c3 _ _ [] w3 h23 h3)
    rw [List.length_nil] at CE
    clear CS h12 h2 B2 b3 h23 h3
    go_wp2_with fail
    refine CE.out.mono ?_
    rintro e w' ⟨rfl, rfl⟩
    go_wp2_with fail
    refine (eaOk_any _).mono ?_
    rintro e w5 ⟨rfl, b5⟩
    have HB5 := Lib.hid (B3.trans (b5.mono B3.size))
    clear b5
    go_wp2_with fail
    go_ret
    exact ⟨rfl, HB5.out⟩
  | some x =>
    have hxl := HLE.out x hq
    have hmo := HMO.out x hq
    rw [hq] at CI CS
    rw [hmo] at CM
    simp only [Option.getD_some, Option.isSome_some, Option.getD_none, Option.isSome_none, List.length_nil] at CI CS CM
    have CP := Lib.hid fun A c W hc hh he => putI A c x W (by omega) hc hh he
    have HIN := Lib.hid (pak_inv hxl)
    have hpl := pakPutB_le4 x
    unfold Packed at CP
    generalize pakPutB x = px at *
    have CG := Lib.hid fun A c W hh he => getI A c px W (by omega) hh he
    rw [HIN.out] at CG
    unfold Unpacked at CG
    simp only [Option.getD_some, Option.isSome_some] at CG
    have hxI : (x.length : Int) ≤ 200 := by omega
    clear hq HLE HMO hmo hxl hpl HIN
    go_wp2_with fail
    refine CI.out.mono ?_
    rintro e w2 ⟨A2, c2, rfl, hc2, h2, b2⟩
    have h12 := h1.carry b2 (Nat.le_refl _) b2.size
    have B2 := B1.trans (b2.mono B1.size)
    clear CI h1 B1 b2
    go_wp2_with fail
    refine (CS.out _ h12).mono ?_
    rintro e w3 ⟨A3, c3, rfl, -, h3, b3⟩
    have h13 := h12.carry b3 (Nat.le_refl _) b3.size
    have h23 := h2.carry b3 (Nat.le_refl _) b3.size
    have B3 := B2.trans (b3.mono B2.size)
    clear CS h12 h2 B2 b3
    go_wp2_with fail
    refine (eaBytes_same _ _ _ _ _ _ x _ h23 h3).mono ?_
    rintro e w' ⟨rfl, rfl⟩
    clear h3
    have HO3 : Hid (Own (w3.alloc (.cells #[] 5)) w3.heap.size (.slice (some ⟨w3.heap.size, 0, none⟩) 0 0) []) := Lib.hid (own_empty (Nat.le_refl _))
    have hba : Below w3.heap.size w3 (w3.alloc (.cells #[] 5)) := (Below.refl _ w3).alloc (Nat.le_refl _) _
    have HBA := Lib.hid hba
    have H13 := Lib.hid (h13.below hba)
    clear h13 hba
    go_wp2_with (first | (at_builtin; refine wpList_pushAll rfl (.tmp 45) (.tmp 46) rfl w3.heap.size _ [] rfl HO3.out w3.heap.size A1 c1 l1 rfl H13.out (by have := HL1.out; simp; omega) (by simp) ?_; intro v4 w4 ho4 hg4; rw [List.nil_append] at ho4) | (at_builtin; refine wpList_push1 rfl (.tmp 47) (.tmp 48) rfl w3.heap.size v4 l1 rfl ho4 0 w4.heap.size rfl rfl (by have := HL1.out; omega) (Nat.le_trans (by simp) hg4.size) ?_; intro g5 c5 w5 ho5 hg5))
    have hB4 := HBA.out.grown hg4 (by simp) (fun q hq => by cases hq; exact Nat.le_refl _)
    have hB5 := (hB4.alloc hB4.size (.cells #[.int .u8 0] 5)).grown hg5 (by have := hB4.size; simp; omega) (fun q hq => (World.ownsRow.lt ho4 q hq).1)
    have h25 := h23.carry hB5 (Nat.le_refl _) hB5.size
    have B5 := B3.trans (hB5.mono B3.size)
    have CM1 := Lib.hid (CM.out _ c5 w5 ho5.reads (HE.out _ B5))
    rw [show (l1 ++ [(0 : UInt8)]).length = l1.length + 1 from by simp] at CM1
    clear ho4 hg4 hB4 hB5 ho5 hg5 HO3 HBA H13 h23 B3 CM
    refine CM1.out.mono ?_
    rintro e w6 ⟨A6, c6, rfl, -, -, b6⟩
    have h26 := h25.carry b6 (Nat.le_refl _) b6.size
    have B6 := B5.trans (b6.mono B5.size)
    clear CM1 h25 B5 b6
    go_wp2_with fail
    refine (CP.out _ _ _ hc2 h26 (HE.out _ B6)).mono ?_
    rintro e w7 ⟨A7, c7, rfl, -, h7, b7⟩
    have h27 := h26.carry b7 (Nat.le_refl _) b7.size
    have B7 := B6.trans (b7.mono B6.size)
    clear CP h26 B6 b7
    go_wp2_with fail
    refine (CG.out _ _ _ h7 (HE.out _ B7)).mono ?_
    rintro e w8 ⟨A8, c8, rfl, -, h8, b8⟩
    have h28 := h27.carry b8 (Nat.le_refl _) b8.size
    have B8 := B7.trans (b8.mono B7.size)
    clear CG h27 B7 b8 h7
    go_wp2_with fail
    refine (eaBytes_same _ _ _ _ _ _ x _ h8 h28).mono ?_
    rintro e w' ⟨rfl, rfl⟩
    go_wp2_with fail
    go_ret
    exact ⟨rfl, B8⟩

set_option maxHeartbeats 400000 in
theorem fnPakGet_walk (A : Option Addr) (c : Nat) (l : List UInt8) (w : World) (he : ErrsA w) (h : Has w w.heap.size A l) (hc : l.length ≤ c) :
    Calls Tryd.prog 4 #[.slice A l.length c] w fun e w' => e = .returned (.bool true) ∧ Below w.heap.size w w' := by
  by_cases hbig : 1048576 < l.length
  · have hb : (1048576 : Int) < (l.length : Int) := by omega
    clear hbig h he
    go_enter Tryd.func4, Tryd.ntmps4
    go_wp2
    go_ret
    exact ⟨rfl, Below.refl _ _⟩
  · exact fnPakGet_small A c l w he h hc (by omega)
end Go.Proofs.YtofphjfgaihjhaaDoor
