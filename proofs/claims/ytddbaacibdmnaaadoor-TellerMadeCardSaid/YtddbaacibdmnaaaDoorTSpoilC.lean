/- A number or an expression more, appended in place or not: what lies there then. No condition. -/
import Derived.Test.YtddbaacibdmnaaaDoorTSpoilB
namespace Go.Proofs.YtddbaacibdmnaaaDoor
open Go.RowKit
set_option linter.unusedVariables false
set_option linter.unusedSimpArgs false

theorem infoI : (Tryd.prog.info? 3).map (fun i => (i.zero, i.size, i.bytes)) = some (some (.int .i64 0), 1, 8) := by kernel_rfl
set_option maxRecDepth 100000 in
theorem push_num {ops : Array Oper} {rest : List Oper} {o : Oper} {a : Act} {w : World} {Q : Exit → Act → World → Prop} (hgd : o.guard = none) (sx xx : Operand)
    (ho : o.op = .call { callee := .builtin .append, args := #[sx, xx], argTypes := #[29, 29] }) (base : Nat) (v : Value) (n : Nat) (xs : List Value) (u : Int) (g : Nat)
    (hs : a.eval sx = v) (hx : a.eval xx = .slice (some ⟨g, 0, none⟩) 1 1) (h2 : w.ownsRow base 3 1 v n xs) (hb : w.heap[g]? = some (.cells #[.int .i64 u] 3 (0, 0))) (hl : n ≤ 100000) (hbase : base ≤ w.heap.size)
    (h : ∀ v' w', w'.ownsRow base 3 1 v' (n + 1) (xs ++ [.int .i64 u]) → w.grownBy w' v.ownBlock → (v'.ownBlock = v.ownBlock ∨ ∃ k, v'.ownBlock = some k ∧ w.heap.size ≤ k) → wpList Tryd.prog ops Q rest (a.put o.dst v') w') : wpList Tryd.prog ops Q (o :: rest) a w := by
  obtain ⟨i0, hi0, hi1⟩ := Option.map_eq_some_iff.1 infoI
  obtain ⟨hz0, hz1, hz2⟩ : i0.zero = some _ ∧ i0.size = 1 ∧ i0.bytes = _ := by simpa using hi1
  refine wpList_append_own_at _ hgd sx xx 29 ho base 3 i0 _ 1 8 Tryd.underlying29 hi0 hz0 hz1 hz2 rfl (by decide) v n xs hs h2 ⟨g, 0, none⟩ 1 1 [.int .i64 u] hx rfl (fun j y hj => ?_) ?_ (by unfold maxLen; omega) (by omega) hbase ?_
  · match j, hj with
    | 0, hj =>
      simp at hj
      subst hj
      have e : (⟨g, 0, none⟩ : Addr).add 0 = ⟨g, 0, none⟩ := by simp [Addr.add]
      rw [e]
      simp [World.cell?, hb]
    | j + 1, hj => simp at hj
  · intro y hy
    simp at hy
    subst hy
    rfl
  · intro v' w' hown hgrow _ hat
    exact h v' w' hown hgrow (hat.imp id (fun e => ⟨_, e, Nat.le_refl _⟩))

theorem TopP.owns {W : World} {P : Nat → Prop} {k lo hi : Int} {s : ByteArray} {ns ks : Value} {x nums : List Int} {kids : List Tree} (h : TopP W P ⟨k, s, ns, lo, hi, ks⟩ (.mk k x nums lo hi kids)) :
    W.ownsRow 0 3 1 ns nums.length (icells nums) ∧ (∀ g, ns.ownBlock = some g → P g) ∧ (∀ g, ks.ownBlock = some g → P g) := by
  cases h with
  | mk vs h1 h2 h3 h4 h5 h6 h7 => exact ⟨h1, h2, h5⟩

/-- Its numbers may be others. -/
theorem TopP.etree_nums {W W' : World} {P : Nat → Prop} {k lo hi : Int} {s : ByteArray} {ns ks ns' : Value} {x nums nums' : List Int} {kids : List Tree} (h : TopP W P ⟨k, s, ns, lo, hi, ks⟩ (.mk k x nums lo hi kids)) (hok : TreeOk (.mk k x nums lo hi kids))
    (hn : RowAny W' ns' nums'.length (icells nums')) (hk : ∀ b, P b → some b ≠ ns.ownBlock → b < W.heap.size → W'.heap[b]? = W.heap[b]?) (hs : W.heap.size ≤ W'.heap.size) :
    ETree W' ⟨k, strOf x, ns', lo, hi, ks⟩ (.mk k x nums' lo hi kids) := by
  cases hok with
  | mk o1 o2 o3 =>
    cases h with
    | mk vs h1 h2 h3 h4 h5 h6 h7 =>
      rcases h7 with rfl | rfl
      · have hk' : ∀ b, P b → b < W.heap.size → W'.heap[b]? = W.heap[b]? := fun b hP hl => hk b hP (by simp [Value.ownBlock]) hl
        have hks := (owns_in (P := P) h4 h5).kept (W' := W') (P' := fun _ => True) (fun b hP hl => ⟨hk' b hP hl, trivial⟩) hs
        exact .mk vs o1 o2 hn hks.any h3 (fun i y t hy ht => ((h6 i y t hy ht).kept (W' := W') (P' := fun _ => True) (fun b hP hl => ⟨hk' b hP.1 hl, trivial⟩) hs).tree (o3 t (List.mem_of_getElem? ht)))
      · have hl0 : kids.length = 0 := by
          rcases h4.2 with ⟨_, e⟩ | ⟨g, c, cur, e, _⟩
          · exact e
          · cases e
        have hk0 : kids = [] := List.length_eq_zero_iff.1 hl0
        subst hk0
        exact .mk (kids := []) [] o1 o2 hn (RowAny.nil _ _ _ _) rfl (fun i y t hy ht => by simp at hy)

/-- One more expression in it. -/
theorem TopP.etree_kids {W : World} {P : Nat → Prop} {k lo hi : Int} {s : ByteArray} {ns ks : Value} {x nums : List Int} {kids : List Tree} (h : TopP W P ⟨k, s, ns, lo, hi, ks⟩ (.mk k x nums lo hi kids)) (hok : TreeOk (.mk k x nums lo hi kids)) :
    ∃ vs : List XV, vs.length = kids.length ∧ W.ownsRow 0 32 6 ks kids.length (vs.flatMap XV.cells) ∧
      ∀ (W' : World) (ks' : Value) (Y : XV) (u : Tree), RowAny W' ks' (kids.length + 1) (vs.flatMap XV.cells ++ Y.cells) → ETree W' Y u → (∀ b, P b → some b ≠ ks.ownBlock → b < W.heap.size → W'.heap[b]? = W.heap[b]?) → W.heap.size ≤ W'.heap.size →
        ETree W' ⟨k, strOf x, ns, lo, hi, ks'⟩ (.mk k x nums lo hi (kids ++ [u])) := by
  cases hok with
  | mk o1 o2 o3 =>
    cases h with
    | mk vs h1 h2 h3 h4 h5 h6 h7 =>
      refine ⟨vs, h3, h4, fun W' ks' Y u hr hu hk hs => ?_⟩
      have hns : RowAny W' ns nums.length (icells nums) := by
        rcases h7 with rfl | rfl
        · have : nums.length = 0 := by
            rcases h1.2 with ⟨_, e⟩ | ⟨g, c, cur, e, _⟩
            · exact e
            · cases e
          rw [this]
          exact .inl ⟨rfl, _, _, rfl⟩
        · exact ((owns_in (P := P) h1 h2).kept (W' := W') (P' := fun _ => True) (fun b hP hl => ⟨hk b hP (by simp [Value.ownBlock]) hl, trivial⟩) hs).any
      refine .mk (vs ++ [Y]) o1 o2 hns (by simpa using hr) (by simp [h3]) (fun i y t hy ht => ?_)
      by_cases hi : i < kids.length
      · rw [List.getElem?_append_left (by omega)] at hy
        rw [List.getElem?_append_left hi] at ht
        exact ((h6 i y t hy ht).kept (W' := W') (P' := fun _ => True) (fun b hP hl => ⟨hk b hP.1 hP.2 hl, trivial⟩) hs).tree (o3 t (List.mem_of_getElem? ht))
      · have hi0 : i = kids.length := by
          have := (List.getElem?_eq_some_iff.1 ht).1
          simp at this; omega
        subst hi0
        rw [List.getElem?_append_right (by omega), h3] at hy
        rw [List.getElem?_append_right (by omega)] at ht
        simp at hy ht
        subst hy ht
        exact hu

end Go.Proofs.YtddbaacibdmnaaaDoor
