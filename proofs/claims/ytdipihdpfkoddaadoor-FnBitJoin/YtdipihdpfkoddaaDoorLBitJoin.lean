/-
  The law FnBitJoin returns true for every two lists of bytes. Condition: the two errors of writing are not nil.
-/
import Derived.Test.YtdipihdpfkoddaaDoorDrawPut
import Derived.Test.YtdipihdpfkoddaaDoorDrawHexT
import Derived.Test.YtdipihdpfkoddaaDoorBitJ
import Derived.Test.YtdipihdpfkoddaaDoorBitPS
import Derived.Test.YtdipihdpfkoddaaDoorBitPR
import Derived.Test.YtdipihdpfkoddaaDoorPushAll
import Derived.Test.YtdipihdpfkoddaaDoorEaB
import Derived.Test.YtdipihdpfkoddaaDoorEaOk
namespace Go.Proofs.YtdipihdpfkoddaaDoor
open Go.RowKit

theorem bytes8_snoc (b : List UInt8) (k : Nat) (x : UInt8) (h : b[k]? = some x) : bytes8 (b.take (k + 1)) = bytes8 (b.take k) ++ [((x.toNat : Int), 8)] := by
  rw [List.take_add_one, h]
  simp [bytes8]
theorem HasN.alloc {w : World} {A : Option Addr} {l : List (Int × Int)} (h : HasN w w.heap.size A l) (o : Obj) : HasN (w.alloc o) w.heap.size A l := h.kept fun p hp => World.cell?_of_block (Below.heap_alloc w _ p.block hp)
theorem Has.alloc {w : World} {A : Option Addr} {l : List UInt8} (h : Has w w.heap.size A l) (o : Obj) : Has (w.alloc o) w.heap.size A l := h.kept fun p hp => World.cell?_of_block (Below.heap_alloc w _ p.block hp)

set_option maxHeartbeats 4000000 in
theorem fnBitJoin_small (A A' : Option Addr) (c c' : Nat) (l l' : List UInt8) (w : World) (hT : ErrsW w) (h : Has w w.heap.size A l) (hc : l.length ≤ c) (h' : Has w w.heap.size A' l') (hc' : l'.length ≤ c') (hs : l.length ≤ 1048576) (hs' : l'.length ≤ 1048576) :
    Calls Tryd.prog 5 #[.slice A l.length c, .slice A' l'.length c'] w fun e w' => e = .returned (.bool true) ∧ Below w.heap.size w w' := by
  have hb : (l.length : Int) ≤ 1048576 := by omega
  have hb' : (l'.length : Int) ≤ 1048576 := by omega
  have HT : Hid (∀ W, Below w.heap.size w W → ErrsW W) := Lib.hid fun W hb => hT.below hb (Nat.le_refl _)
  clear hT
  go_enter Tryd.func5, Tryd.ntmps5
  go_wp2_with fail
  refine (drawHexText_any A c l _ (by omega) hc h).mono ?_
  rintro e w1 ⟨v1, b, rfl, ho1, hbl, B1⟩
  obtain ⟨A1, c1, rfl, -, h1⟩ := ho1.has
  have z1 := B1.size
  have h1' := h'.carry B1 (Nat.le_refl _) z1
  have HBL := Lib.hid hbl
  have CD := Lib.hid (drawBitPut_any A' c' l' w1 (by omega) hc' h1')
  have HH1 := Lib.hid h1
  have HB1 := Lib.hid B1
  clear h hc h' hbl ho1 h1' h1 B1 z1 hc' hs hs'
  go_wp2_with fail
  refine CD.out.mono ?_
  rintro e w2 ⟨v2, base, ns, p, rfl, hd, hnl⟩
  have b2 := hd.2.2.2.2
  obtain ⟨A2, c2, hv2, -, h2⟩ := hd.2.2.2.1.has
  subst hv2
  have HB2 := Lib.hid (HB1.out.trans (b2.mono HB1.out.size))
  have HH2 := Lib.hid (HH1.out.carry b2 (Nat.le_refl _) b2.size)
  have HN2 := Lib.hid h2
  have HNL := Lib.hid hnl
  clear CD hd hnl b2 h2 HH1 HB1
  have ho0 := ownN_empty (Nat.le_refl w2.heap.size)
  have hb0 : Below w2.heap.size w2 (w2.alloc (.cells #[] 29)) := (Below.refl _ w2).alloc (Nat.le_refl _) _
  have HO0 := Lib.hid ho0
  have HB0 := Lib.hid hb0
  clear ho0 hb0
  have hbl2 : (b.length : Int) ≤ 12 := by have := HBL.out; omega
  go_wp2_with fail
  generalize w2.alloc (.cells #[] 29) = w3 at *
  go_loopw [7, 8] (fun v i wr => ∃ k : Nat, k ≤ b.length ∧ i = .int .i64 k ∧ OwnN wr w2.heap.size v (bytes8 (b.take k)) ∧ Below w2.heap.size w2 wr) (fun _ i _ => b.length - (intOf i).toNat)
  case atStart => exact ⟨0, Nat.zero_le _, rfl, HO0.out, HB0.out⟩
  case round =>
    clear HO0 HB0
    obtain ⟨k, hk, rfl, hown, hbel⟩ := hrel
    have HO := Lib.hid hown
    have HB := Lib.hid hbel
    by_cases hlt : k < b.length
    · obtain ⟨bb, o, x, rfl, hbB, hx, hcx⟩ := HH2.out.spot hlt
      have d := (hbel.cell (p := ⟨bb, o + k, none⟩) hbB).trans hcx
      have HX := Lib.hid (bytes8_snoc b k x hx)
      have hl8 : (bytes8 (b.take k)).length = k := by rw [bytes8_length, List.length_take]; omega
      obtain ⟨A4, c4, hv4, -, -⟩ := hown.has
      rw [hl8] at hv4
      subst hv4
      have HL8 := Lib.hid hl8
      have hx8 : (x.toNat : Int) < 256 := by have := x.toNat_lt; omega
      clear hown hbel hx hcx hl8
      go_wp2_with (at_builtin; refine wpList_pushN rfl (.tmp 31) (.tmp 38) rfl w2.heap.size _ (bytes8 (b.take k)) rfl HO.out (x.toNat : Int) 8 wr.heap.size rfl rfl (by rw [HL8.out]; omega) HB.out.size ?_; intro g5 c5 w5 ho5 hg5)
      have HO5 : Hid (OwnN w5 w2.heap.size (.slice (some ⟨g5, 0, none⟩) ((bytes8 (b.take k)).length + 1) c5) (bytes8 (b.take (k + 1)))) := Lib.hid (by rw [HX.out]; exact ho5)
      have HB5 := Lib.hid ((HB.out.alloc HB.out.size (.cells #[.int .i64 (x.toNat : Int), .int .i64 8] 29)).grown hg5 (by have := HB.out.size; simp; omega) (fun q hq => (World.ownsRow.lt HO.out q hq).1))
      clear ho5 hg5 HO HB d
      go_wp2
      go_roundw
      case rel => exact ⟨k + 1, by omega, by go_num, HO5.out, HB5.out⟩
      case measure => simp [intOf]; omega
    · obtain rfl : k = b.length := by omega
      rw [List.take_of_length_le (Nat.le_refl _)] at hown
      obtain ⟨A4, c4, hv4, -, h4⟩ := hown.has
      rw [bytes8_length] at hv4
      subst hv4
      have HF4 := Lib.hid h4
      have HB4 := Lib.hid (HB2.out.trans (hbel.mono HB2.out.size))
      have HN4 := Lib.hid (HN2.out.carry hbel (Nat.le_refl _) hbel.size)
      have HH4 := Lib.hid (HH2.out.carry hbel (Nat.le_refl _) hbel.size)
      have CP := Lib.hid fun A c W (hh : HasN W W.heap.size A (bytes8 b)) hE => implBitPut_any A c (bytes8 b) W (by rw [bytes8_length]; omega) hh hE
      have hpb := put_bytes b (by omega)
      rw [bytes8_length] at CP
      unfold PutOut at CP
      rw [hpb] at CP
      clear hown hbel h4 HO HB hpb HN2 HH2
      go_wp2_with fail
      refine (CP.out _ _ _ HF4.out (HT.out _ HB4.out)).mono ?_
      rintro e w5 ⟨v5, rfl, ho5, b5⟩
      obtain ⟨A5, c5, hv5, -, h5⟩ := ho5.has
      subst hv5
      have HX5 := Lib.hid h5
      have HB5 := Lib.hid (HB4.out.trans (b5.mono HB4.out.size))
      have HN5 := Lib.hid (HN4.out.carry b5 (Nat.le_refl _) b5.size)
      have HH5 := Lib.hid (HH4.out.carry b5 (Nat.le_refl _) b5.size)
      have HF5 := Lib.hid (HF4.out.carry b5 (Nat.le_refl _) b5.size)
      have CQ := Lib.hid (implBitPut_any A2 c2 ns w5 (by have := HNL.out; omega) HN5.out (HT.out _ HB5.out))
      unfold PutOut at CQ
      clear ho5 b5 h5 HB4 HN4 HH4 HF4 CP
      go_wp2_with fail
      refine CQ.out.mono ?_
      rintro e w6 ⟨v6, rfl, ho6, b6⟩
      obtain ⟨A6, c6, hv6, -, h6⟩ := ho6.has
      subst hv6
      have HY6 := Lib.hid h6
      have HB6 := Lib.hid (HB5.out.trans (b6.mono HB5.out.size))
      have HN6 := Lib.hid (HN5.out.carry b6 (Nat.le_refl _) b6.size)
      have HH6 := Lib.hid (HH5.out.carry b6 (Nat.le_refl _) b6.size)
      have HF6 := Lib.hid (HF5.out.carry b6 (Nat.le_refl _) b6.size)
      have HX6 := Lib.hid (HX5.out.carry b6 (Nat.le_refl _) b6.size)
      have CE1 := Lib.hid (eaBytes_same A5 A1 c5 c1 _ _ b w6 HX6.out HH6.out)
      have CS := Lib.hid (specBitPut_any A2 c2 ns w6 (by have := HNL.out; omega) HN6.out)
      unfold PutOut at CS
      clear ho6 b6 h6 HB5 HN5 HH5 HF5 HX5 CQ
      have hyl := bitPutB_le ns
      obtain ⟨y, hy⟩ : ∃ y, bitPutB ns = y := ⟨_, rfl⟩
      have HY := Lib.hid hy
      rw [hy] at hyl CS HY6
      have hyl2 : (y.length : Int) ≤ 400 := by omega
      have HYL := Lib.hid hyl
      rw [hy]
      clear hyl hy
      go_wp2_with fail
      refine CE1.out.mono ?_
      rintro e w' ⟨rfl, rfl⟩
      clear CE1
      go_wp2_with fail
      refine CS.out.mono ?_
      rintro e w7 ⟨v7, rfl, ho7, b7⟩
      obtain ⟨A7, c7, hv7, -, h7⟩ := ho7.has
      subst hv7
      have HB7 := Lib.hid (HB6.out.trans (b7.mono HB6.out.size))
      have HN7 := Lib.hid (HN6.out.carry b7 (Nat.le_refl _) b7.size)
      have HF7 := Lib.hid (HF6.out.carry b7 (Nat.le_refl _) b7.size)
      have HX7 := Lib.hid (HX6.out.carry b7 (Nat.le_refl _) b7.size)
      have HY7 := Lib.hid (HY6.out.carry b7 (Nat.le_refl _) b7.size)
      have CE2 := Lib.hid (eaBytes_same A6 A7 c6 c7 _ _ y w7 HY7.out h7)
      clear ho7 b7 h7 HB6 HN6 HH6 HF6 HX6 HY6 CS
      go_wp2_with fail
      refine CE2.out.mono ?_
      rintro e w' ⟨rfl, rfl⟩
      clear CE2
      have hjl : (bytes8 b ++ ns).length = b.length + ns.length := by rw [List.length_append, bytes8_length]
      have CA := Lib.hid fun A c W (hh : HasN W W.heap.size A (bytes8 b ++ ns)) hE => implBitPut_any A c (bytes8 b ++ ns) W (by rw [hjl]; have := HNL.out; omega) hh hE
      unfold PutOut at CA
      rw [hjl] at CA
      have HK1 := Lib.hid (HF7.out.alloc (.cells #[] 29))
      have HO8 := Lib.hid (ownN_empty (Nat.le_refl w7.heap.size))
      have HL1 : Hid (∀ q, (Value.slice (some ⟨w7.heap.size, 0, none⟩) 0 0).ownBlock = some q → w7.heap.size ≤ q) := Lib.hid fun q hq => by simp [Value.ownBlock] at hq; omega
      go_wp2_with (first
        | (at_builtin; refine wpList_pushAllN rfl (.tmp 55) (.tmp 56) rfl w7.heap.size _ [] rfl HO8.out _ A4 c4 (bytes8 b) (by rw [bytes8_length]; rfl) HK1.out (by rw [bytes8_length]; simp; omega) (by simp) ?_; intro v8 w8 ho8 hg8; rw [List.nil_append] at ho8; have hb8 : Below w7.heap.size w7 w8 := (((Below.refl _ w7).alloc (Nat.le_refl _) _).grown hg8 (by simp) HL1.out); clear hg8)
        | (at_builtin; refine wpList_pushAllN rfl (.tmp 57) (.tmp 58) rfl w7.heap.size v8 (bytes8 b) rfl ho8 _ A2 c2 ns rfl (HN7.out.below hb8) (by rw [bytes8_length]; have := HNL.out; omega) hb8.size ?_; intro v9 w9 ho9 hg9; obtain ⟨A9, c9, hv9, -, hr9⟩ := ho9.has; rw [hjl] at hv9; subst hv9))
      have b9 : Below w7.heap.size w7 w9 := hb8.grown hg9 hb8.size (fun q hq => (World.ownsRow.lt ho8 q hq).1)
      have HB9 := Lib.hid (HB7.out.trans (b9.mono HB7.out.size))
      have HX9 := Lib.hid (HX7.out.carry b9 (Nat.le_refl _) b9.size)
      have HY9 := Lib.hid (HY7.out.carry b9 (Nat.le_refl _) b9.size)
      have HR9 := Lib.hid hr9
      clear hb8 ho8 hg9 ho9 hr9 b9 HB7 HX7 HY7 HF7 HN7 HK1 HO8 HL1
      refine (CA.out _ _ _ HR9.out (HT.out _ HB9.out)).mono ?_
      rintro e w10 ⟨v10, rfl, ho10, b10⟩
      obtain ⟨A10, c10, hv10, -, h10⟩ := ho10.has
      subst hv10
      have HB10 := Lib.hid (HB9.out.trans (b10.mono HB9.out.size))
      have HX10 := Lib.hid (HX9.out.carry b10 (Nat.le_refl _) b10.size)
      have HY10 := Lib.hid (HY9.out.carry b10 (Nat.le_refl _) b10.size)
      have HZ10 := Lib.hid h10
      clear b10 ho10 h10 HB9 HX9 HY9 HR9 CA
      by_cases hout : y.length = 0 ∨ 400 < b.length + y.length
      · have hcond : ((y.length : Int) == 0) = true ∨ (((y.length : Int) == 0) = false ∧ (400 : Int) < (b.length : Int) + (y.length : Int)) := by
          by_cases h0 : y.length = 0
          · exact .inl (beq_iff_eq.2 (by omega))
          · exact .inr ⟨beq_eq_false_iff_ne.2 (by omega), by omega⟩
        clear hout hjl
        rcases hcond with h0 | ⟨h0, h4⟩
        all_goals
          go_wp2_with fail
          refine (eaOk_any _).mono ?_
          rintro e w11 ⟨rfl, b11⟩
          have HB11 := Lib.hid (HB10.out.trans (b11.mono HB10.out.size))
          clear b11 HB10
          go_wp2_with fail
          go_ret
          exact ⟨rfl, HB11.out⟩
      · have h0 : ((y.length : Int) == 0) = false := beq_eq_false_iff_ne.2 (by omega)
        have h4 : ¬ ((400 : Int) < (b.length : Int) + (y.length : Int)) := by omega
        have hpj := put_join b ns (by rw [HY.out]; omega) (by rw [HY.out]; omega)
        rw [HY.out] at hpj
        rw [hpj] at HZ10 ⊢
        have hbyl : (b ++ y).length = b.length + y.length := by simp
        rw [hbyl]
        have CF := Lib.hid fun A A' c c' B B' W hh hh' => eaBytes_same A A' c c' B B' (b ++ y) W hh hh'
        rw [hbyl] at CF
        have HK1 := Lib.hid (HX10.out.alloc (.cells #[] 5))
        have HL1 : Hid (∀ q, (Value.slice (some ⟨w10.heap.size, 0, none⟩) 0 0).ownBlock = some q → w10.heap.size ≤ q) := Lib.hid fun q hq => by simp [Value.ownBlock] at hq; omega
        clear hout hpj hjl
        go_wp2_with (first
          | (at_builtin; refine wpList_pushAll rfl (.tmp 74) (.tmp 75) rfl w10.heap.size _ [] rfl (own_empty (Nat.le_refl _)) _ A5 c5 b rfl HK1.out (by simp; omega) (by simp) ?_; intro v11 w11 ho11 hg11; rw [List.nil_append] at ho11; have hb11 : Below w10.heap.size w10 w11 := (((Below.refl _ w10).alloc (Nat.le_refl _) _).grown hg11 (by simp) HL1.out); clear hg11)
          | (at_builtin; refine wpList_pushAll rfl (.tmp 76) (.tmp 77) rfl w10.heap.size v11 b rfl ho11 _ A6 c6 y rfl (HY10.out.below hb11) (by omega) hb11.size ?_; intro v12 w12 ho12 hg12; obtain ⟨A12, c12, hv12, -, hr12⟩ := ho12.has; rw [hbyl] at hv12; subst hv12))
        have b12 : Below w10.heap.size w10 w12 := hb11.grown hg12 hb11.size (fun q hq => (World.ownsRow.lt ho11 q hq).1)
        have HB12 := Lib.hid (HB10.out.trans (b12.mono HB10.out.size))
        have HZ12 := Lib.hid (HZ10.out.carry b12 (Nat.le_refl _) b12.size)
        have HR12 := Lib.hid hr12
        clear hb11 ho11 hg12 ho12 hr12 b12 hbyl
        refine (CF.out _ _ _ _ _ _ _ HZ12.out HR12.out).mono ?_
        rintro e w' ⟨rfl, rfl⟩
        go_wp2_with fail
        go_ret
        exact ⟨rfl, HB12.out⟩

theorem fnBitJoin_walk (A : Option Addr) (c : Nat) (l : List UInt8) (A' : Option Addr) (c' : Nat) (l' : List UInt8) (w : World) (hT : ErrsW w) (h : Has w w.heap.size A l) (hc : l.length ≤ c) (h' : Has w w.heap.size A' l') (hc' : l'.length ≤ c') :
    Calls Tryd.prog 5 #[.slice A l.length c, .slice A' l'.length c'] w fun e w' => e = .returned (.bool true) ∧ Below w.heap.size w w' := by
  by_cases hbig : 1048576 < l.length
  · have hb : (1048576 : Int) < (l.length : Int) := by omega
    go_enter Tryd.func5, Tryd.ntmps5
    go_wp2
    go_ret
    exact ⟨rfl, Below.refl _ _⟩
  · by_cases hbig' : 1048576 < l'.length
    · have hb0 : ¬ ((1048576 : Int) < (l.length : Int)) := by omega
      have hb : (1048576 : Int) < (l'.length : Int) := by omega
      go_enter Tryd.func5, Tryd.ntmps5
      go_wp2
      go_ret
      exact ⟨rfl, Below.refl _ _⟩
    · exact fnBitJoin_small A A' c c' l l' w hT h hc h' hc' (by omega) (by omega)
end Go.Proofs.YtdipihdpfkoddaaDoor
