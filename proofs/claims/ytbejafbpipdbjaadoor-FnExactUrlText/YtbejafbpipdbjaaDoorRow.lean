/-
  Words for slices of whole numbers of one kind: a slice that reads as a list of numbers, a row of numbers that the call owns, appending one number to it. No condition but the length.
-/
import Derived.Test.YtbejafbpipdbjaaDoorPush
namespace Go.Proofs.YtbejafbpipdbjaaDoor
set_option maxRecDepth 4000
open Go.RowKit

/-- A number as the value of a cell. -/
def kv (k : IntKind) (n : Nat) : Value := .int k (n : Int)
theorem kvs_one (k : IntKind) (l : List Nat) : ∀ u ∈ l.map (kv k), u.oneCell' = true := by
  intro u hu
  obtain ⟨b, _, rfl⟩ := List.mem_map.1 hu
  rfl
/-- The slice that begins at A and is as long as l holds the numbers l, in a block below B. -/
def HasK (k : IntKind) (w : World) (B : Nat) (A : Option Addr) (l : List Nat) : Prop :=
  l = [] ∨ ∃ b o, A = some ⟨b, o, none⟩ ∧ b < B ∧ ∀ (i x : Nat), l[i]? = some x → w.cell? ⟨b, o + i, none⟩ = some (.int k (x : Int))
/-- The slice value v is the call's own and holds the numbers l. -/
def OwnK (k : IntKind) (t : TypeId) (w : World) (base : Nat) (v : Value) (l : List Nat) : Prop := w.ownsRow base t 1 v l.length (l.map (kv k))

section
variable {k : IntKind} {t : TypeId} {w w' : World} {B B' base : Nat} {A : Option Addr} {l : List Nat} {v : Value}
theorem HasK.spot (h : HasK k w B A l) {i : Nat} (hi : i < l.length) :
    ∃ b o x, A = some ⟨b, o, none⟩ ∧ b < B ∧ l[i]? = some x ∧ w.cell? ⟨b, o + i, none⟩ = some (.int k (x : Int)) := by
  rcases h with rfl | ⟨b, o, rfl, hb, hc⟩
  · simp at hi
  · exact ⟨b, o, l[i], rfl, hb, List.getElem?_eq_getElem hi, hc i _ (List.getElem?_eq_getElem hi)⟩
theorem HasK.kept (h : HasK k w B A l) (hk : ∀ p : Addr, p.block < B → w'.cell? p = w.cell? p) : HasK k w' B A l := by
  rcases h with rfl | ⟨b, o, rfl, hb, hc⟩
  · exact .inl rfl
  · exact .inr ⟨b, o, rfl, hb, fun i x hx => (hk ⟨b, o + i, none⟩ hb).trans (hc i x hx)⟩
theorem HasK.wider (h : HasK k w B A l) (hB : B ≤ B') : HasK k w B' A l := by
  rcases h with rfl | ⟨b, o, rfl, hb, hc⟩
  · exact .inl rfl
  · exact .inr ⟨b, o, rfl, by omega, hc⟩
theorem HasK.below (h : HasK k w B A l) (hb : Below B w w') : HasK k w' B A l := h.kept fun _ hp => hb.cell hp
theorem HasK.drewN (h : HasK k w B A l) (n : Nat) : HasK k (w.drewN n) B A l := h
theorem OwnK.has (h : OwnK k t w base v l) : ∃ A c, v = .slice A l.length c ∧ l.length ≤ c ∧ HasK k w w.heap.size A l := by
  rcases h.2 with ⟨rfl, hn⟩ | ⟨g, cap, cur, rfl, _, hg, hc, _, _, ht⟩
  · exact ⟨none, 0, by rw [hn], by omega, .inl (List.eq_nil_of_length_eq_zero hn)⟩
  · refine ⟨_, cap, rfl, hc, .inr ⟨g, 0, rfl, (Array.getElem?_eq_some_iff.1 hg).1, fun i x hx => ?_⟩⟩
    have h2 : w.ownsRow base t 1 (.slice (some ⟨g, 0, none⟩) l.length cap) l.length (l.map (kv k)) := h
    have hi : i < l.length := (List.getElem?_eq_some_iff.1 hx).1
    have := h2.cellAt i (by omega)
    rw [Nat.zero_add, this]
    simp [hx, kv]
theorem OwnK.reads {n c : Nat} (h : OwnK k t w base (.slice A n c) l) : HasK k w w.heap.size A l := by
  obtain ⟨A', c', e, _, hh⟩ := h.has
  injection e with e1 _ _
  rw [e1]
  exact hh
theorem OwnK.keep {row : Option Nat} (h : OwnK k t w base v l) (hg : w.grownBy w' row) (hne : v.ownBlock = none ∨ v.ownBlock ≠ row) : OwnK k t w' base v l := World.ownsRow.kept h hg hne
theorem OwnK.alloc (h : OwnK k t w base v l) (o : Obj) : OwnK k t (w.alloc o) base v l := World.ownsRow.alloc h o
theorem OwnK.drewN (h : OwnK k t w base v l) (n : Nat) : OwnK k t (w.drewN n) base v l := h
theorem OwnK.below {B : Nat} (h : OwnK k t w base v l) (hb : Below B w w') (hB : w.heap.size ≤ B) : OwnK k t w' base v l := by
  refine ⟨h.1, ?_⟩
  rcases h.2 with hn | ⟨g, cap, cur, rfl, hg, hh, rest⟩
  · exact .inl hn
  · exact .inr ⟨g, cap, cur, rfl, hg, (hb.block g (Nat.lt_of_lt_of_le (Array.getElem?_eq_some_iff.1 hh).1 hB)).trans hh, rest⟩
theorem OwnK.empty (h : base ≤ w.heap.size) : OwnK k t (w.alloc (.cells #[] t)) base (.slice (some ⟨w.heap.size, 0, none⟩) 0 0) [] :=
  World.ownsRow_made w #[] 0 h (by unfold maxLen; omega) rfl
theorem OwnK.lit (h : base ≤ w.heap.size) (hl : l.length ≤ 1000000) : OwnK k t (w.alloc (.cells (l.map (kv k)).toArray t)) base (.slice (some ⟨w.heap.size, 0, none⟩) l.length l.length) l :=
  ⟨by simp, .inr ⟨w.heap.size, l.length, _, rfl, h, heap_alloc_new w _, Nat.le_refl _, by unfold maxLen; omega, by simp, by rw [List.take_of_length_le (by simp)]⟩⟩
end

theorem OwnK.set {k : IntKind} {t : TypeId} {w : World} {base g cap : Nat} {l : List Nat} (h : OwnK k t w base (.slice (some ⟨g, 0, none⟩) l.length cap) l) (i x : Nat) :
    OwnK k t (w.setCell ⟨g, i, none⟩ (.int k (x : Int))) base (.slice (some ⟨g, 0, none⟩) l.length cap) (l.set i x) ∧ w.grownBy (w.setCell ⟨g, i, none⟩ (.int k (x : Int))) (some g) := by
  have h2 := World.ownsRow.stored h i (.int k (x : Int))
  refine ⟨?_, h2.2⟩
  unfold OwnK
  rw [List.length_set, List.map_set]
  exact h2.1
theorem OwnK.nonnil {k : IntKind} {t : TypeId} {w : World} {base n c : Nat} {A : Option Addr} {l : List Nat} (h : OwnK k t w base (.slice A n c) l) (hn : 0 < l.length) : ∃ g, A = some ⟨g, 0, none⟩ ∧ base ≤ g ∧ g < w.heap.size := by
  rcases h.2 with ⟨hv, h0⟩ | ⟨g, cap, cur, hv, hb, hg, _⟩
  · omega
  · injection hv with hv _ _
    exact ⟨g, hv, hb, (Array.getElem?_eq_some_iff.1 hg).1⟩
theorem HasK.grown {k : IntKind} {w w' : World} {B : Nat} {A : Option Addr} {l : List Nat} {row : Option Nat} (h : HasK k w B A l) (hg : w.grownBy w' row) (hB : B ≤ w.heap.size) (hr : ∀ b o, A = some ⟨b, o, none⟩ → row ≠ some b) : HasK k w' B A l := by
  rcases h with rfl | ⟨b, o, rfl, hb, hc⟩
  · exact .inl rfl
  · exact .inr ⟨b, o, rfl, hb, fun i x hx => (World.cell?_of_block (hg.block b (by omega) (fun e => hr b o rfl e.symm))).trans (hc i x hx)⟩

/-- 'append(v, x)' of one number, v the call's own, in a plain list of operations. -/
theorem wpList_pushK {P : Program} (k : IntKind) (ts t : TypeId) {i0 : TypeInfo} {bytes : Nat} (hu : P.underlying ts = some (.slice t)) (hi : P.info? t = some i0) (hz0 : i0.zero = some (.int k 0)) (hz1 : i0.size = 1) (hz2 : i0.bytes = bytes)
    {w : World} {ops : Array Oper} {rest : List Oper} {o : Oper} {a : Act} {Q : Exit → Act → World → Prop} (hgd : o.guard = none) (s x : Operand)
    (ho : o.op = .call { callee := .builtin .append, args := #[s, x], argTypes := #[ts, ts] })
    (base : Nat) (v : Value) (l : List Nat) (hs : a.eval s = v) (hown : OwnK k t w base v l) (b : Nat) (H : Nat) (hH : w.heap.size = H)
    (hx : a.eval x = .slice (some ⟨H, 0, none⟩) 1 1) (hb : (l.length + 1) * bytes ≤ 140737488355328) (hb2 : l.length + 1 ≤ 1000000000) (hbase : base ≤ w.heap.size)
    (h : ∀ g cap w', OwnK k t w' base (.slice (some ⟨g, 0, none⟩) (l.length + 1) cap) (l ++ [b]) → (w.alloc (.cells #[.int k (b : Int)] t)).grownBy w' v.ownBlock → wpList P ops Q rest (a.put o.dst (.slice (some ⟨g, 0, none⟩) (l.length + 1) cap)) w') :
    wpList P ops Q (o :: rest) a (w.alloc (.cells #[.int k (b : Int)] t)) := by
  refine wpList_append_lies _ hgd s x ts ho base t i0 (.int k 0) 1 bytes hu hi hz0 hz1 hz2 rfl (by omega) v l.length (l.map (kv k)) hs (World.ownsRow.alloc hown _) ⟨H, 0, none⟩ 1 1 [kv k b] hx (by simp) ?_ (kvs_one k [b]) (by omega) (by unfold maxLen; omega) hb (by simp; omega) _ rfl ?_
  · intro j u hu
    subst hH
    match j, hu with
    | 0, hu =>
      simp at hu
      subst hu
      exact World.news_of_block (heap_alloc_new w _) 0 _ rfl
  · intro g cap w' h1 h2 _ _
    refine h g cap w' ?_ h2
    unfold OwnK
    rw [List.length_append, List.map_append]
    exact h1
/-- The same as one step of a region that draws its order. -/
theorem step_pushK {P : Program} (k : IntKind) (ts t : TypeId) {i0 : TypeInfo} {bytes : Nat} (hu : P.underlying ts = some (.slice t)) (hi : P.info? t = some i0) (hz0 : i0.zero = some (.int k 0)) (hz1 : i0.size = 1) (hz2 : i0.bytes = bytes)
    {w : World} {ops : Array Oper} {o : Oper} {a : Act} {K : Act → World → Prop} {Q : Exit → Act → World → Prop} {E : Prop} (hgd : o.guard = none) (s x : Operand)
    (ho : o.op = .call { callee := .builtin .append, args := #[s, x], argTypes := #[ts, ts] })
    (base : Nat) (v : Value) (l : List Nat) (hs : a.eval s = v) (hown : OwnK k t w base v l)
    (ad : Addr) (b : Nat) (hx : a.eval x = .slice (some ad) 1 1) (hnews : w.cell? (ad.add 0) = some (.int k (b : Int)))
    (hb : (l.length + 1) * bytes ≤ 140737488355328) (hb2 : l.length + 1 ≤ 1000000000) (hbase : base ≤ w.heap.size)
    (h : ∀ g cap w', OwnK k t w' base (.slice (some ⟨g, 0, none⟩) (l.length + 1) cap) (l ++ [b]) → w.grownBy w' v.ownBlock → K (a.put o.dst (.slice (some ⟨g, 0, none⟩) (l.length + 1) cap)) w') :
    if Region.wanted o (yielded ops a.tmps) = true then Oper.wp P o a w K Q else E := by
  refine step_append_lies w hgd s x ts ho base t i0 (.int k 0) 1 bytes hu hi hz0 hz1 hz2 rfl (by omega) v l.length (l.map (kv k)) hs hown ad 1 1 [kv k b] hx (by simp) ?_ (kvs_one k [b]) (by omega) (by unfold maxLen; omega) hb hbase _ rfl ?_
  · intro j u hu
    match j, hu with
    | 0, hu => simp at hu; subst hu; exact hnews
  · intro g cap w' h1 h2 _ _
    refine h g cap w' ?_ h2
    unfold OwnK
    rw [List.length_append, List.map_append]
    exact h1
end Go.Proofs.YtbejafbpipdbjaaDoor
