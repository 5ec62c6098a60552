import PyProof.Rows.All
import Wide.All
import OpenK.AllK
import Wide.FinOn
import HandS.ForMost
import HandS.IsInst
import HandS.EndBits
import HandS.Wide
import HandS.WideBits
import HandS.TupAny
import HandS.Codes
import HandS.Defaults
import HandS.ForExc
import HandS.TryMany
import HandS.ExcIs
import HandS.TryElse
import HandS.DictComp
import HandS.Walk
import HandS.NoneIn
import HandS.TupLe
import PySem.Challenge.RW_majordomo_k67_room_on_a_node
set_option Elab.async false
set_option linter.all false
set_option maxRecDepth 100000
set_option maxHeartbeats 4000000

namespace My
open PySem PySem.Spec PyProof.Rows L2
/-! own words: tests, heaps, items -/
theorem ifd {p A B : Prop} [Decidable p] (h1 : p → A) (h2 : ¬ p → B) : if decide p = true then A else B := by
  by_cases h : p
  · rw [decide_eq_true h]; exact (if_pos rfl).mpr (h1 h)
  · rw [decide_eq_false h]; exact (if_neg Bool.false_ne_true).mpr (h2 h)
theorem ifn {p A B : Prop} [Decidable p] (h1 : ¬ p → A) (h2 : p → B) : if (!decide p) = true then A else B := by
  by_cases h : p
  · rw [decide_eq_true h]; exact (if_neg Bool.false_ne_true).mpr (h2 h)
  · rw [decide_eq_false h]; exact (if_pos rfl).mpr (h1 h)
theorem ift {p A B : Prop} [Decidable p] (h : p) (h1 : A) : if decide p = true then A else B := by
  rw [decide_eq_true h]; exact (if_pos rfl).mpr h1
theorem iff0 {p A B : Prop} [Decidable p] (h : ¬ p) (h1 : B) : if decide p = true then A else B := by
  rw [decide_eq_false h]; exact (if_neg Bool.false_ne_true).mpr h1
theorem ifnt {p A B : Prop} [Decidable p] (h : p) (h1 : B) : if (!decide p) = true then A else B := by
  rw [decide_eq_true h]; exact (if_neg Bool.false_ne_true).mpr h1
theorem ifbt {b : Bool} {A B : Prop} (h : b = true) (h1 : A) : if b = true then A else B := (if_pos h).mpr h1
theorem ifbf {b : Bool} {A B : Prop} (h : b = false) (h1 : B) : if b = true then A else B := by rw [h]; exact h1
theorem ifb2 {b : Bool} {A B : Prop} (h1 : b = true → A) (h2 : b = false → B) : if b = true then A else B := by
  cases b with
  | true => exact h1 rfl
  | false => exact h2 rfl
theorem same_upd {H : Hp} {p : Addr} {o : HO} (h : H p = none) : Same H (upd H p o) := fun b x e => by
  rw [upd_ne (ne_of_none e h)]
  exact e
theorem same_put {H H' : Hp} {p : Addr} {o : HO} (e : Same H H') (h : H p = none) : Same H (upd H' p o) := fun b x q => by
  rw [upd_ne (ne_of_none q h)]
  exact e b x q
theorem sqt_same {K : PySem.W.Frag} {H H' : Hp} {a : Addr} {xs : List V} (e : Same H H') (h : SqT K H a xs) : SqT K H' a xs := by
  rcases h with (h | ⟨o, h⟩) | h
  · exact .inl (.inl (e _ _ h))
  · exact .inl (.inr ⟨o, e _ _ h⟩)
  · exact .inr h
theorem sql {K : PySem.W.Frag} {H : Hp} {a : Addr} {xs : List V} (h : H a = some (.lst xs)) : SqL K H a xs := .inl (.inl h)
theorem sqt {K : PySem.W.Frag} {H : Hp} {a : Addr} {xs : List V} (h : H a = some (.tup xs)) : SqT K H a xs := .inl (.inl h)
theorem sz {n : Nat} (h : n ≤ 100000) : n ≤ sizeLine := Nat.le_trans h (by decide)
theorem szl {n : Nat} (h : n ≤ 100000) : n < sizeLine := Nat.lt_of_le_of_lt h (by decide)
theorem map_at {α : Type} {f : α → V} {xs : List α} {i : Nat} {y : V} (h : (xs.map f)[i]? = some y) : ∃ x, xs[i]? = some x ∧ y = f x := by
  rw [List.getElem?_map] at h
  cases e : xs[i]? with
  | none => rw [e] at h; cases h
  | some x => rw [e] at h; exact ⟨x, rfl, (Option.some.inj h).symm⟩
theorem at_map {α : Type} {f : α → V} {xs : List α} {i : Nat} {x : α} (h : xs[i]? = some x) : atI (xs.map f) (i : Int) = some (f x) := atI_nat (by rw [List.getElem?_map, h]; rfl)
theorem take_more {α : Type} {l : List α} {i : Nat} {x : α} (h : l[i]? = some x) : l.take (i + 1) = l.take i ++ [x] := by
  rw [List.take_add_one, h]; rfl
/-! deep data stands as long as what was tracked stands -/
mutual
theorem dp_same {K : PySem.W.Frag} {H H' : Hp} (e : Same H H') : ∀ (d : PyData) {v : V}, Dp K H v d → Dp K H' v d
  | _, _, .non => .non
  | _, _, .bl b => .bl b
  | _, _, .int i => .int i
  | _, _, .str x => .str x
  | .list ds, _, .lst h a => .lst (e.seq h) (dpa_same e ds a)
  | .tuple ds, _, .tup h a => .tup (sqt_same e h) (dpa_same e ds a)
theorem dpa_same {K : PySem.W.Frag} {H H' : Hp} (e : Same H H') : ∀ (ds : List PyData) {vs : List V}, DpAll K H vs ds → DpAll K H' vs ds
  | [], _, .nil => .nil
  | d :: ds, _, .cons h a => .cons (dp_same e d h) (dpa_same e ds a)
end
theorem dpa_len {K : PySem.W.Frag} {H : Hp} : ∀ {vs : List V} {ds : List PyData}, DpAll K H vs ds → vs.length = ds.length
  | _, _, .nil => rfl
  | _, _, .cons _ a => by rw [List.length_cons, List.length_cons, dpa_len a]
theorem dpa_at {K : PySem.W.Frag} {H : Hp} : ∀ {vs : List V} {ds : List PyData} {i : Nat} {v : V}, DpAll K H vs ds → vs[i]? = some v → ∃ d, ds[i]? = some d ∧ Dp K H v d
  | _, _, _, _, .nil, h => by simp at h
  | _, _, 0, _, .cons h _, e => ⟨_, rfl, by have := Option.some.inj e; subst this; exact h⟩
  | _, _, i + 1, _, .cons _ a, e => dpa_at (i := i) a (by simpa using e)
theorem dpa_app {K : PySem.W.Frag} {H : Hp} : ∀ {vs ws : List V} {ds es : List PyData}, DpAll K H vs ds → DpAll K H ws es → DpAll K H (vs ++ ws) (ds ++ es)
  | _, _, _, _, .nil, b => b
  | _, _, _, _, .cons h a, b => .cons h (dpa_app a b)
theorem eqv_self {d : PyData} (h : SeqAt.shaped d = true) : PyData.eqv d d = true := SeqAt.eqv_refl d (SeqAt.canLay_of_shaped h)
/-! data that may be compared -/
theorem layAll : ∀ {ds : List PyData}, (∀ d ∈ ds, d.canLay0 = true) → PyData.canLayAll0 ds = true
  | [], _ => rfl
  | d :: ds, h => by
    rw [PyData.canLayAll0, h d List.mem_cons_self, layAll fun e he => h e (List.mem_cons_of_mem _ he)]; rfl
theorem depAll {n : Nat} : ∀ {ds : List PyData}, (∀ d ∈ ds, d.depth ≤ n) → PyData.depthAll ds ≤ n
  | [], _ => Nat.zero_le _
  | d :: ds, h => by
    have h1 := h d List.mem_cons_self
    have h2 := depAll (ds := ds) fun e he => h e (List.mem_cons_of_mem _ he)
    simp only [PyData.depthAll]
    omega
/-- plain data of at most this depth -/
def Flat (n : Nat) (d : PyData) : Prop := d.canLay0 = true ∧ d.depth ≤ n
theorem flat_list {n : Nat} {ds : List PyData} (h : ∀ d ∈ ds, Flat n d) : Flat (n + 1) (.list ds) :=
  ⟨by rw [PyData.canLay0]; exact layAll fun d hd => (h d hd).1, by have := depAll (n := n) fun d hd => (h d hd).2; simp only [PyData.depth]; omega⟩
theorem flat_tup {n : Nat} {ds : List PyData} (h : ∀ d ∈ ds, Flat n d) : Flat (n + 1) (.tuple ds) :=
  ⟨by rw [PyData.canLay0]; exact layAll fun d hd => (h d hd).1, by have := depAll (n := n) fun d hd => (h d hd).2; simp only [PyData.depth]; omega⟩
theorem flat_int (n : Nat) (i : Int) : Flat n (.int i) := ⟨rfl, by simp [PyData.depth]⟩
theorem flat_str (n : Nat) (x : Str) (h : (PyData.str x).canLay0 = true := by decide +kernel) : Flat n (.str x) := ⟨h, by simp [PyData.depth]⟩
theorem flat_bl (n : Nat) (b : Bool) : Flat n (.bool b) := ⟨rfl, by simp [PyData.depth]⟩
theorem flat_non (n : Nat) : Flat n .none := ⟨rfl, by simp [PyData.depth]⟩
theorem Flat.mono {n m : Nat} {d : PyData} (h : Flat n d) (hm : n ≤ m) : Flat m d := ⟨h.1, Nat.le_trans h.2 hm⟩
theorem Flat.sh {n : Nat} {d : PyData} (h : Flat n d) (hn : n ≤ 64) : SeqAt.shaped d = true := by
  show (d.canLay0 && decide (d.depth ≤ 64)) = true
  rw [Bool.and_eq_true]
  exact ⟨h.1, decide_eq_true (Nat.le_trans h.2 hn)⟩
theorem tyx_t {K : PySem.W.Frag} {H : Hp} {a : Addr} {xs : List V} (h : SqT K H a xs) : TyX K H (.ref a) (.type "tuple") := by
  rcases h with (h | ⟨o, h⟩) | ⟨o, its, n, h, hc, _⟩
  · exact .base (.tup h)
  · exact .fTuple h
  · exact .kTuple h hc
theorem tyx_l {K : PySem.W.Frag} {H : Hp} {a : Addr} {xs : List V} (h : SqL K H a xs) : TyX K H (.ref a) (.type "list") := by
  rcases h with (h | ⟨o, h⟩) | ⟨o, its, n, h, hc, _⟩
  · exact .base (.lst h)
  · exact .base (.frz h)
  · exact .kList h hc
theorem same_both {G H : Hp} {t : Addr} {x : HO} (e : Same G H) : Same (upd G t x) (upd H t x) := fun b o h => by
  by_cases hb : b = t
  · subst hb; rw [upd_same] at h ⊢; exact h
  · rw [upd_ne hb] at h ⊢; exact e b o h
theorem set_self {α : Type} : ∀ {l : List α} {i : Nat} {x : α}, l[i]? = some x → l.set i x = l
  | [], i, x, h => by simp at h
  | a :: l, 0, x, h => by
    have e : a = x := Option.some.inj h
    subst e
    rfl
  | a :: l, i + 1, x, h => by
    show a :: l.set i x = a :: l
    rw [set_self (by simpa using h)]
theorem ixn {n j : Nat} {i : Int} (hi : i = (j : Int)) (hj : j < n) : ixN n i = some j := by
  unfold ixN
  rw [if_pos (by omega), if_pos (by omega)]
  congr 1
  omega
/-! shifts and masks in place -/
section
variable {X : Cx}
theorem ip_shr : PIp X .RShift (fun x y H Q => ∃ (i : Int) (k : Nat), x = .int i ∧ y = .int (k : Int) ∧ Q (.int (i / 2 ^ k)) H) := by
  intro pins s σ H x y v u Q I r1 r2 h
  obtain ⟨i, k, e1, e2, q⟩ := h
  subst e1; subst e2
  obtain ⟨t, rfl⟩ := r1
  obtain ⟨t', rfl⟩ := r2
  refine irshift_int (Int.natCast_nonneg k) ⟨.int _, H, I.tok _, ⟨_, rfl⟩, ?_⟩
  rw [Int.toNat_natCast, Int.fdiv_eq_ediv_of_nonneg _ (Int.le_of_lt (Int.pow_pos (by decide)))]
  exact q
theorem ip_or : PIp X .BitOr (fun x y H Q => ∃ (r a : Int) (k : Nat), x = .int r ∧ y = .int (a * 2 ^ k) ∧ (0 ≤ a ∧ 0 ≤ r ∧ r < 2 ^ k) ∧ Q (.int (r + a * 2 ^ k)) H) := by
  intro pins s σ H x y v u Q I r1 r2 h
  obtain ⟨r, a, k, e1, e2, ⟨h0, h1, h2⟩, q⟩ := h
  subst e1; subst e2
  obtain ⟨t, rfl⟩ := r1
  obtain ⟨t', rfl⟩ := r2
  refine ior_int ⟨.int _, H, I.tok _, ⟨_, rfl⟩, ?_⟩
  have e : Builtin.bitOr r (a * 2 ^ k) = r + a * 2 ^ k := by
    have hp : (0 : Int) ≤ a * 2 ^ k := Int.mul_nonneg h0 (Int.le_of_lt (Int.pow_pos (by decide)))
    rw [bitOr_nn h1 hp, Nat.or_comm, ← bitOr_nn hp h1, or_low h0 h1 h2, Int.add_comm]
  rw [e]
  exact q
end
theorem bits_small : ∀ n : Nat, n < 128 → Builtin.Int.intBits (n : Int) ≤ 8 := by decide +kernel
/-- isinstance(e, c) of the error that a suite holds, its class known by the reading -/
theorem call_isE1 {X : Cx} {a D : Addr} {oe : Obj} {cls : Value} {d : Option Addr} {pn : List (Addr × Obj)} (C : ExcC X.K D) (hz : Zc cls d oe) (hf : ∃ vs, oe.data = .fields vs) :
    CallR (X.suite a ((a, oe) :: pn)) (.builtin "isinstance") (fun xs H Q => cls = .ref D ∧ d = none ∧ rIsE X.K D a xs H Q) := fun pins s σ H xs us Q I r h => by
  obtain ⟨h1, h2, h⟩ := h
  subst h1
  subst h2
  exact call_isE C hz hf pins s σ H xs us Q I r h
/-! slices -/
theorem sIx_le {n d : Nat} {i : Nat} : HT.sIx n d (some (i : Int)) = min i n := HT.sIx_nat n d i
theorem cut0n (xs : List V) (j : Nat) : cutV xs none (some (j : Int)) = xs.take j := by
  unfold cutV
  rw [sIx_le, HT.sIx_none, List.drop_zero, Nat.sub_zero]
  exact (List.take_eq_take_min).symm
theorem cutnn (xs : List V) (i j : Nat) : cutV xs (some (i : Int)) (some (j : Int)) = (xs.drop i).take (j - i) := by
  unfold cutV
  rw [sIx_le, sIx_le]
  by_cases hi : i ≤ xs.length
  · rw [Nat.min_eq_left hi]
    by_cases hj : j ≤ xs.length
    · rw [Nat.min_eq_left hj]
    · rw [Nat.min_eq_right (by omega), List.take_of_length_le (by rw [List.length_drop]; omega), List.take_of_length_le (by rw [List.length_drop]; omega)]
  · have e : min i xs.length = xs.length := by omega
    rw [e, List.drop_of_length_le (Nat.le_refl _), List.drop_of_length_le (show xs.length ≤ i by omega), List.take_nil, List.take_nil]
theorem cut_ints (ns : List Int) {i j : Nat} {a b : Int} (ha : a = i) (hb : b = j) : cutV (ns.map V.int) (some a) (some b) = ((ns.drop i).take (j - i)).map V.int := by
  rw [ha, hb, cutnn, ← List.map_drop, ← List.map_take]
theorem rep_ints (ns : List Int) (k : Nat) : (List.replicate k (ns.map V.int)).flatten = (List.replicate k ns).flatten.map V.int := by
  rw [List.map_flatten, List.map_replicate]
/-- [e for x in a slice], e changes nothing -/
theorem lc_cut {K : PySem.W.Frag} {wi : TI} {te : TE} {s : Nat} {σ : L2.St} {H : Hp} {Q : VK} (xs : List V) (f : V → V)
    (hwi : ∀ R : It → Hp → Prop, (∀ p, H p = none → R (Itl K p) (upd H p (.lst xs))) → wi σ H R) (hlen : xs.length ≤ 90000)
    (hw : ∀ x, wipe ((wipe σ [s]).set s (some x)) [s] = wipe σ [s])
    (he : ∀ (i : Nat) (x : V) (G : Hp) (Q' : VK), xs[i]? = some x → Same H G → Q' (f x) G → te ((wipe σ [s]).set s (some x)) G Q')
    (k : ∀ D H', H D = none → Same H H' → H' D = some (.lst (xs.map f)) → Q (.ref D) H') : tLc wi (gName s) tYes te [s] σ H Q := by
  refine hwi _ fun p hp D hD => ?_
  have nD : D ≠ p := fun z => by rw [z, upd_same] at hD; cases hD
  have hD0 : H D = none := by rw [upd_ne nD] at hD; exact hD
  refine lc_list (K := K) (a := p) (xs := xs) (fun i H' => Same H H' ∧ H' p = some (.lst xs) ∧ H' D = some (.lst ((xs.take i).map f)))
    ⟨(same_upd hp).trans (same_upd hD), by rw [upd_ne nD.symm, upd_same], by rw [upd_same]; rfl⟩ (fun i H' _ h => sql h.2.1) (fun i x G hx hG => ?_) (fun G hG => ?_)
  · refine ⟨hw x, ?_⟩
    refine he i x G _ hx hG.1 ⟨_, hG.2.2, szl (by rw [List.length_map, List.length_take]; omega), same_put hG.1 hD0, by rw [upd_ne nD.symm]; exact hG.2.1, ?_⟩
    rw [upd_same, take_more hx, List.map_append]
    rfl
  · refine k D G hD0 hG.1 ?_
    rw [List.take_length] at hG
    exact hG.2.2
/-- lists of ints as data -/
theorem dpa_ints {K : PySem.W.Frag} {H : Hp} : ∀ ns : List Int, DpAll K H (ns.map V.int) (ns.map PyData.int)
  | [] => .nil
  | n :: ns => .cons (.int n) (dpa_ints ns)
theorem dp_ints {K : PySem.W.Frag} {H : Hp} {a : Addr} {ns : List Int} (h : SqL K H a (ns.map V.int)) : Dp K H (.ref a) (.list (ns.map PyData.int)) := .lst h (dpa_ints ns)
theorem flat_ints (ns : List Int) : Flat 1 (.list (ns.map PyData.int)) := flat_list (n := 0) fun d hd => by
  obtain ⟨i, _, rfl⟩ := List.mem_map.mp hd
  exact flat_int _ _
theorem flat_tints (ns : List Int) : Flat 1 (.tuple (ns.map PyData.int)) := flat_tup (n := 0) fun d hd => by
  obtain ⟨i, _, rfl⟩ := List.mem_map.mp hd
  exact flat_int _ _
theorem eqvAll_ints : ∀ xs ys : List Int, PyData.eqvAll (xs.map .int) (ys.map .int) = decide (xs = ys)
  | [], [] => rfl
  | [], _ :: _ => rfl
  | _ :: _, [] => rfl
  | x :: xs, y :: ys => by
    show ((x == y) && PyData.eqvAll (xs.map .int) (ys.map .int)) = _
    rw [eqvAll_ints xs ys, Bool.eq_iff_iff]
    simp
theorem eqv_ints (xs ys : List Int) : PyData.eqv (.list (xs.map .int)) (.list (ys.map .int)) = decide (xs = ys) := eqvAll_ints xs ys
theorem eqv_tints (xs ys : List Int) : PyData.eqv (.tuple (xs.map .int)) (.tuple (ys.map .int)) = decide (xs = ys) := eqvAll_ints xs ys
/-- a def with defaults that lets nothing out -/
theorem okD {P : Program} {w : World} {K : PySem.W.Frag} {mg : Str → Option Value} {base : Heap} {x qual : Str} {params : Arguments} {body : List Stmt} {scope : Scope} {dvs : List V} {kws : List (Str × V)} {f : Addr} {fd : FuncData} {N ps : List Str} {k : Nat} {sp : Sp}
    (F : FunD K x qual params body scope dvs kws f fd) (S : FnScope N ps scope) (len : ∀ vs H Q E, sp vs H Q E → vs.length = ps.length)
    (hb : ∀ (cdv : Value) (A : Around) (outer : List Env) (s : Shared) (H : Hp) (vs : List V) (Q : VK) (E : XK), Room k (A.deeper (envOfC qual scope s.heap.objs.size f cdv)) → sp vs H Q E →
      ∃ t, PSs (cxOf CX0 P w K mg base N qual scope f cdv A outer s H E).nox body t ∧ t { nx := fun _ H' => Q .non H', rt := Q } (start N vs) H) : FnOk P w K mg base CX0 (k + 1) f fd ps sp :=
  F.ok S len fun cdv A outer s H vs Q E hr h => by
    obtain ⟨t, h1, q⟩ := hb cdv A outer s H vs Q E hr h
    exact ⟨t, h1.nox, q⟩
/-! what an expression gives, whatever stands besides -/
def EI (te : TE) (σ : L2.St) (H : Hp) (v : V) : Prop := ∀ G, Same H G → ∀ Q : VK, Q v G → te σ G Q
def EA (ta : TA) (σ : L2.St) (H : Hp) (vs : List V) : Prop := ∀ G, Same H G → ∀ Q : List V → Hp → Prop, Q vs G → ta σ G Q
/-- a list, new or old -/
def EL (te : TE) (σ : L2.St) (H : Hp) (xs : List V) : Prop := ∀ G, Same H G → ∀ Q : VK, (∀ p G', Same G G' → G' p = some (.lst xs) → Q (.ref p) G') → te σ G Q
section
variable {K : PySem.W.Frag} {σ : L2.St} {H : Hp} {ta tb te : TE} {x y z v : V} {xs ys : List V}
theorem ei_var {i : Nat} (h : σ[i]? = some (some v)) : EI (tVar i) σ H v := fun _ _ _ q => ⟨v, h, q⟩
theorem ei_c : EI (tC v) σ H v := fun _ _ _ q => q
theorem ei_op {r : R2} (ha : EI ta σ H x) (hb : EI tb σ H y) (hr : ∀ G, Same H G → ∀ Q : VK, Q z G → r x y G Q) : EI (tOp r ta tb) σ H z := fun G s Q q => ha G s _ (hb G s _ (hr G s Q q))
theorem ei_i0 {g : Int → Int → V} {i j : Int} (ha : EI ta σ H (.int i)) (hb : EI tb σ H (.int j)) : EI (tOp (rI0 g) ta tb) σ H (g i j) := ei_op ha hb fun _ _ _ q => ⟨i, j, rfl, rfl, q⟩
theorem ei_ic {C : Int → Int → Prop} {g : Int → Int → V} {i j : Int} (ha : EI ta σ H (.int i)) (hb : EI tb σ H (.int j)) (hc : C i j) : EI (tOp (rI C g) ta tb) σ H (g i j) := ei_op ha hb fun _ _ _ q => ⟨i, j, rfl, rfl, hc, q⟩
theorem ea_nil : EA tNil σ H [] := fun _ _ _ q => q
theorem ea_cons {tr : TA} {vs : List V} (h : EI ta σ H x) (g : EA tr σ H vs) : EA (tCons ta tr) σ H (x :: vs) := fun G s _ q => h G s _ (g G s _ q)
theorem ei_cb {r : List V → Hp → VK → Prop} {tr : TA} {vs : List V} (ha : EA tr σ H vs) (hr : ∀ G, Same H G → ∀ Q : VK, Q z G → r vs G Q) : EI (tCB r tr) σ H z := fun G s Q q => ha G s _ (hr G s Q q)
/-- len of a list, list(..) of a list or a tuple, as they are read -/
def rLen (K : PySem.W.Frag) : List V → Hp → VK → Prop := fun xs H Q => ∃ p ys, xs = [.ref p] ∧ (SqL K H p ys ∨ SqT K H p ys) ∧ Q (.int ys.length) H
def rLst (K : PySem.W.Frag) : List V → Hp → VK → Prop := fun xs H Q => ∃ p ys, xs = [.ref p] ∧ (SqL K H p ys ∨ SqT K H p ys) ∧ ∀ l, H l = none → Q (.ref l) (upd H l (.lst ys))
def rTup (K : PySem.W.Frag) : List V → Hp → VK → Prop := fun xs H Q => ∃ p ys, xs = [.ref p] ∧ ((SqL K H p ys ∧ ∀ l, H l = none → Q (.ref l) (upd H l (.tup ys))) ∨ (SqT K H p ys ∧ Q (.ref p) H))
theorem callK_tuple {X : Cx} (h : X.K = K) : CallR X (.type "tuple") (rTup K) := by subst h; exact call_tuple_of
theorem callK_list {X : Cx} (h : X.K = K) : CallR X (.type "list") (rLst K) := by subst h; exact call_list_of
theorem opK_catA {X : Cx} (h : X.K = K) : OpR X (binaryOp .Add) (rCatA K) := by subst h; exact op_catA
theorem ixK_list {X : Cx} (h : X.K = K) : IxR X (rIxL K) := by subst h; exact ix_list
theorem ixK_tup {X : Cx} (h : X.K = K) : IxR X (rIxT K) := by subst h; exact ix_tup
theorem pe_fldK {X : Cx} {e : Expr} {f : Str} {pos : Pos} {ta : TE} (h : X.K = K) (he : PE X e ta) (hb : attributeBase e f X.env (eval e X.env) = eval e X.env) : PE X (.Attribute e f pos) (tFld K ta f) := by subst h; exact pe_fld he hb
theorem callK_len {X : Cx} (h : X.K = K) : CallR X (.builtin "len") (rLen K) := by subst h; exact call_len_seq
theorem ei_lenL {i : Nat} {p : Addr} (h : σ[i]? = some (some (.ref p))) (e : SqL K H p xs) : EI (tCB (rLen K) (tCons (tVar i) tNil)) σ H (.int (xs.length : Int)) := ei_cb (ea_cons (ei_var h) ea_nil) fun _ s _ q => ⟨p, xs, rfl, .inl (s.seq e), q⟩
theorem ei_lenT {i : Nat} {p : Addr} (h : σ[i]? = some (some (.ref p))) (e : SqT K H p xs) : EI (tCB (rLen K) (tCons (tVar i) tNil)) σ H (.int (xs.length : Int)) := ei_cb (ea_cons (ei_var h) ea_nil) fun _ s _ q => ⟨p, xs, rfl, .inr (sqt_same s e), q⟩
theorem ei_fld {i : Nat} {p C dx : Addr} {fs : List (Str × V)} {f : Str} (h : σ[i]? = some (some (.ref p))) (hp : H p = some (.ins C dx fs)) (c : Cls K C) (n : NoAttr K C f) (l : fs.lookup f = some v) : EI (tFld K (tVar i) f) σ H v := fun _ s _ q => ⟨.ref p, h, p, C, dx, fs, v, rfl, s _ _ hp, c, n, l, q⟩
theorem ei_din {td : TE} {d : Addr} {kvs : List (Key × V)} {k : Key} (hy : EI te σ H (kV k)) (hd : EI td σ H (.ref d)) (e : H d = some (.dK kvs)) : EI (tDIn te td) σ H (.bl (valV kvs k).isSome) := fun G s _ q => hy G s _ (hd G s _ ⟨d, _, rfl, DGet.k (s _ _ e), q⟩)
theorem ei_dnotin {td : TE} {d : Addr} {kvs : List (Key × V)} {k : Key} (hy : EI te σ H (kV k)) (hd : EI td σ H (.ref d)) (e : H d = some (.dK kvs)) : EI (tDNotIn te td) σ H (.bl (!(valV kvs k).isSome)) := fun G s _ q => hy G s _ (hd G s _ ⟨d, _, rfl, DGet.k (s _ _ e), q⟩)
theorem ei_dget {td : TE} {d : Addr} {kvs : List (Key × V)} {k : Key} (hy : EI te σ H (kV k)) (hd : EI td σ H (.ref d)) (e : H d = some (.dK kvs)) (hv : valV kvs k = some v) : EI (tDGet td te) σ H v := fun G s _ q => hd G s _ (hy G s _ ⟨d, v, rfl, by rw [← hv]; exact DGet.k (s _ _ e), q⟩)
theorem ei_ixL {p : Addr} {j : Int} (ha : EI ta σ H (.ref p)) (hi : EI tb σ H (.int j)) (e : SqL K H p xs) (h : atI xs j = some v) : EI (tOp (rIxL K) ta tb) σ H v := ei_op ha hi fun _ s _ q => ⟨p, xs, j, v, rfl, rfl, s.seq e, h, q⟩
theorem ei_ixT {p : Addr} {j : Int} (ha : EI ta σ H (.ref p)) (hi : EI tb σ H (.int j)) (e : SqT K H p xs) (h : atI xs j = some v) : EI (tOp (rIxT K) ta tb) σ H v := ei_op ha hi fun _ s _ q => ⟨p, xs, j, v, rfl, rfl, sqt_same s e, h, q⟩
theorem ei_eq (ha : EI ta σ H x) (hb : EI tb σ H y) (h : scal x y = true) : EI (tOp rEq ta tb) σ H (.bl (decide (x = y))) := ei_op ha hb fun _ _ _ q => ⟨h, q⟩
theorem ei_ne (ha : EI ta σ H x) (hb : EI tb σ H y) (h : scal x y = true) : EI (tOp rNe ta tb) σ H (.bl (!decide (x = y))) := ei_op ha hb fun _ _ _ q => ⟨h, q⟩
/-- a test by its value -/
theorem tt_use {b : Bool} {Q : Bool → Hp → Prop} (h : EI te σ H (.bl b)) (k : Q b H) : tTest te σ H Q := h H (Same.refl _) _ ⟨b, rfl, k⟩
theorem tb_use {b : Bool} {Q : Bool → Hp → Prop} (h : EI te σ H (.bl b)) (k : Q b H) : tB te σ H Q := h H (Same.refl _) _ ⟨b, rfl, k⟩
theorem el_var {i : Nat} {p : Addr} (h : σ[i]? = some (some (.ref p))) (e : H p = some (.lst xs)) : EL (tVar i) σ H xs := fun G s _ q => ⟨.ref p, h, q p G (Same.refl _) (s _ _ e)⟩
/-- a new list -/
def EN (te : TE) (σ : L2.St) (H : Hp) (xs : List V) : Prop := ∀ G, Same H G → ∀ Q : VK, (∀ p G', G p = none → Same G G' → G' p = some (.lst xs) → Q (.ref p) G') → te σ G Q
theorem EN.el (h : EN te σ H xs) : EL te σ H xs := fun G s Q q => h G s Q fun p G' _ => q p G'
theorem en_lst {tr : TA} {vs : List V} (ha : EA tr σ H vs) (hl : vs.length ≤ 90000) : EN (tLst tr) σ H vs := fun G s _ q => ha G s _ ⟨sz (by omega), fun p hp => q p _ hp (same_upd hp) upd_same⟩
theorem en_cat (ha : EL ta σ H xs) (hb : EL tb σ H ys) (hl : xs.length + ys.length ≤ 90000) : EN (tOp rCat ta tb) σ H (xs ++ ys) := fun G s _ q =>
  ha G s _ fun p G1 s1 e1 => hb G1 (s.trans s1) _ fun p2 G2 s2 e2 => ⟨p, p2, xs, ys, rfl, rfl, s2 _ _ e1, e2, sz (by omega), fun p3 h3 => q p3 _ ((s1.trans s2).free h3) ((s1.trans s2).trans (same_upd h3)) upd_same⟩
theorem en_rep {k : Int} (ha : EL ta σ H xs) (hb : EI tb σ H (.int k)) (h1 : -1000000 ≤ k) (h2 : k ≤ 1000000) (hl : xs.length * k.toNat ≤ 90000) : EN (tOp rRep ta tb) σ H (List.replicate k.toNat xs).flatten := fun G s _ q =>
  ha G s _ fun p G1 s1 e1 => hb G1 (s.trans s1) _ ⟨p, k, xs, rfl, rfl, e1, by omega, by omega, sz (by omega), fun p3 h3 => q p3 _ (s1.free h3) (s1.trans (same_upd h3)) upd_same⟩
theorem el_lst {tr : TA} {vs : List V} (ha : EA tr σ H vs) (hl : vs.length ≤ 90000) : EL (tLst tr) σ H vs := (en_lst ha hl).el
theorem el_cat (ha : EL ta σ H xs) (hb : EL tb σ H ys) (hl : xs.length + ys.length ≤ 90000) : EL (tOp rCat ta tb) σ H (xs ++ ys) := (en_cat ha hb hl).el
theorem el_rep {k : Int} (ha : EL ta σ H xs) (hb : EI tb σ H (.int k)) (h1 : -1000000 ≤ k) (h2 : k ≤ 1000000) (hl : xs.length * k.toNat ≤ 90000) : EL (tOp rRep ta tb) σ H (List.replicate k.toNat xs).flatten := (en_rep ha hb h1 h2 hl).el
theorem el_cb {r : List V → Hp → VK → Prop} {tr : TA} {vs : List V} (ha : EA tr σ H vs) (hr : ∀ G, Same H G → ∀ Q : VK, (∀ p G', Same G G' → G' p = some (.lst xs) → Q (.ref p) G') → r vs G Q) : EL (tCB r tr) σ H xs := fun G s Q q => ha G s _ (hr G s Q q)
theorem el_call {sp : Sp} {dvs : List V} {E : XK} {tr : TA} {vs : List V} (ha : EA tr σ H vs) (hr : ∀ G, Same H G → ∀ Q : VK, (∀ p G', Same G G' → G' p = some (.lst xs) → Q (.ref p) G') → sp (vs ++ dvs) G Q E) : EL (tCall sp dvs E tr) σ H xs := fun G s Q q => ha G s _ (hr G s Q q)
theorem el_listL {i : Nat} {p : Addr} (h : σ[i]? = some (some (.ref p))) (e : SqL K H p xs) : EL (tCB (rLst K) (tCons (tVar i) tNil)) σ H xs := el_cb (ea_cons (ei_var h) ea_nil) fun _ s _ q => ⟨p, xs, rfl, .inl (s.seq e), fun l hl => q l _ (same_upd hl) upd_same⟩
theorem el_listT {i : Nat} {p : Addr} (h : σ[i]? = some (some (.ref p))) (e : SqT K H p xs) : EL (tCB (rLst K) (tCons (tVar i) tNil)) σ H xs := el_cb (ea_cons (ei_var h) ea_nil) fun _ s _ q => ⟨p, xs, rfl, .inr (sqt_same s e), fun l hl => q l _ (same_upd hl) upd_same⟩
/-- x = an expression that gives a list -/
theorem EL.use {Q : VK} (h : EL te σ H xs) (k : ∀ p H', Same H H' → H' p = some (.lst xs) → Q (.ref p) H') : te σ H Q := h H (Same.refl _) Q k
theorem EN.use {Q : VK} (h : EN te σ H xs) (k : ∀ p H', H p = none → Same H H' → H' p = some (.lst xs) → Q (.ref p) H') : te σ H Q := h H (Same.refl _) Q k
theorem EI.use {Q : VK} (h : EI te σ H v) (k : Q v H) : te σ H Q := h H (Same.refl _) Q k
end
/-- defaults: what is bound where keywords give the rest -/
theorem kb_one {K : PySem.W.Frag} {x qual : Str} {params : Arguments} {body : List Stmt} {scope : Scope} {dvs : List V} {f : Addr} {fd : FuncData} {ps : List Str} (F : FunD K x qual params body scope dvs [] f fd) (n : Nat) (ks : List Str) (hd : dvs ≠ [])
    (h : ∀ (T : Addr) (kV doc pm : Value) (an : Option Addr) (cdv ct : Value) (us ws its : List Value), us.length = n → ws.length = ks.length → its.length = dvs.length →
      ∃ k, bindArgs (PySem.W.fnOf x qual params body scope (.ref T) kV doc pm an cdv ct) ⟨us, ks.zip ws⟩ = seqItems? (.ref T) >>= k ∧ k (some its.toArray) = pure (ps.zip (us ++ ws))) :
    KBn K fd ps n ks (fun us ws => us ++ ws) (fun vs zs => vs ++ zs) := by
  obtain ⟨oc, od, dV, kV, doc, pm, an, cdv, ct, osl, rfl, lk, hcd, hD, hK⟩ := F.ex
  rcases hD with ⟨e, _⟩ | ⟨_, T, o, its, m, rfl, lT, oT, rT⟩
  · exact absurd e hd
  · refine ⟨fun s us ws X h1 h2 => BindsTo.of_looks fun M => ?_, fun r1 r2 => r1.append r2⟩
    obtain ⟨k, e1, e2⟩ := h T kV doc pm an cdv ct us ws its h1 h2 rT.length.symm
    rw [e1]
    exact looks_items X lT oT (.of_pure e2)
theorem andV_use {ta tb : TE} {σ : L2.St} {H : Hp} {Q : VK} {x y : Bool} (h1 : EI ta σ H (.bl x)) (h2 : x = true → ∀ Q' : VK, (∀ H', Same H H' → Q' (.bl y) H') → tb σ H Q') (k : ∀ H', Same H H' → Q (.bl (x && y)) H') : tAndV ta tb σ H Q := by
  refine h1 H (Same.refl _) _ ⟨x, rfl, ?_⟩
  cases x with
  | true => exact (if_pos rfl).mpr (h2 rfl _ k)
  | false => exact (if_neg Bool.false_ne_true).mpr (k H (Same.refl _))
/-- what is locked and let go stands as it stood -/
theorem unlock {H H' : Hp} {d : Addr} {od : Obj} {u : HO} (e : H d = some u) (s : Same (upd H d (.frz od u)) H') : Same H (upd H' d u) := fun b o h => by
  by_cases hb : b = d
  · subst hb
    rw [upd_same, ← e]
    exact h
  · rw [upd_ne hb]
    exact s b o (by rw [upd_ne hb]; exact h)
theorem take_filter {α : Type} {l : List α} {i : Nat} {x : α} (f : α → Bool) (h : l[i]? = some x) : (l.take (i + 1)).filter f = (l.take i).filter f ++ if f x then [x] else [] := by
  rw [take_more h, List.filter_append]
  cases e : f x <;> simp [e]
/-- [e for k in d if t] over the keys of a dict, t and e change nothing -/
theorem lc_keys {td te : TE} {tt : TT} {s : Nat} {σ : L2.St} {H : Hp} {Q : VK} (d : Addr) (kvs : List (Key × V)) (f : Key → Bool) (g : Key → V) (e : H d = some (.dK kvs)) (hlen : kvs.length ≤ 90000)
    (htd : ∀ od, EI td σ (upd H d (.frz od (.dK kvs))) (.ref d))
    (hw : ∀ x, wipe ((wipe σ [s]).set s (some x)) [s] = wipe σ [s])
    (ht : ∀ (od : Obj) (i : Nat) (k : Key) (v : V) (G : Hp) (Q' : Bool → Hp → Prop), kvs[i]? = some (k, v) → Same (upd H d (.frz od (.dK kvs))) G → Q' (f k) G → tt ((wipe σ [s]).set s (some (kV k))) G Q')
    (he : ∀ (od : Obj) (i : Nat) (k : Key) (v : V) (G : Hp) (Q' : VK), kvs[i]? = some (k, v) → Same (upd H d (.frz od (.dK kvs))) G → Q' (g k) G → te ((wipe σ [s]).set s (some (kV k))) G Q')
    (k : ∀ D H', H D = none → Same H H' → H' D = some (.lst ((kvs.filter fun kv => f kv.1).map fun kv => g kv.1)) → Q (.ref D) H') : tLockE (tLc (iKeys td) (gName s) tt te [s]) σ H Q := by
  refine ⟨d, _, e, trivial, fun od => htd od _ (Same.refl _) _ ⟨d, od, rfl, .inl ⟨kvs, upd_same, fun D hD => ?_⟩⟩⟩
  have nD : D ≠ d := fun z => by rw [z, upd_same] at hD; cases hD
  have hD0 : H D = none := by rw [upd_ne nD] at hD; exact hD
  refine lc_it walk_keys (fun i G => Same (upd H d (.frz od (.dK kvs))) G ∧ G D = some (.lst (((kvs.take i).filter fun kv => f kv.1).map fun kv => g kv.1)))
    ⟨same_upd hD, upd_same⟩ (fun i G _ h => h.1 _ _ upd_same) (fun i x G G' hi hG hy => ?_) (fun G hG => ?_)
  · obtain ⟨rfl, key, v, hkv, rfl⟩ := hy
    have hfl : ((kvs.take i).filter fun kv => f kv.1).length ≤ 90000 := Nat.le_trans (List.length_filter_le _ _) (by rw [List.length_take]; omega)
    refine ⟨hw _, ht od i key v _ _ hkv hG.1 ?_⟩
    have hts := take_filter (fun kv : Key × V => f kv.1) hkv
    cases hf : f key with
    | true =>
      refine (if_pos rfl).mpr (he od i key v _ _ hkv hG.1 ⟨_, hG.2, szl (by rw [List.length_map]; omega), same_put hG.1 hD, ?_⟩)
      rw [upd_same, hts, List.map_append]
      simp only [hf, if_true]
      rfl
    | false =>
      refine (if_neg Bool.false_ne_true).mpr ⟨hG.1, ?_⟩
      rw [hts]
      simp only [hf, Bool.false_eq_true, if_false, List.append_nil]
      exact hG.2
  · rw [List.take_length] at hG
    refine ⟨hG.1 _ _ upd_same, k D _ hD0 (unlock e hG.1) ?_⟩
    rw [upd_ne nD]
    exact hG.2
theorem put_fresh {kvs : List (Key × V)} {k : Key} {v : V} (h : ∀ kv ∈ kvs, kv.1 ≠ k) : putK kvs k v = kvs ++ [(k, v)] := by
  unfold putK
  rw [if_neg]
  intro z
  obtain ⟨kv, hm, hk⟩ := List.any_eq_true.mp z
  exact h kv hm (of_decide_eq_true hk)
theorem nd_ne {α β : Type} {l : List (α × β)} {i : Nat} {x : α × β} (nd : (l.map (·.1)).Nodup) (h : l[i]? = some x) : ∀ y ∈ l.take i, y.1 ≠ x.1 := fun y hy z => by
  obtain ⟨j, hj, rfl⟩ := List.getElem_of_mem hy
  rw [List.length_take] at hj
  rw [List.getElem_take] at z
  obtain ⟨hi, rfl⟩ := List.getElem?_eq_some_iff.mp h
  have e1 : (l.map (·.1))[j]? = some l[i].1 := by rw [List.getElem?_map, List.getElem?_eq_getElem (by omega), ← z]; rfl
  have e2 : (l.map (·.1))[i]? = some l[i].1 := by rw [List.getElem?_map, List.getElem?_eq_getElem hi]; rfl
  have := nd_ix nd e1 e2
  omega
/-- {k: e for k in d if t} over the keys of a dict -/
theorem dc_keys {td tv : TE} {tt : TT} {s : Nat} {σ : L2.St} {H : Hp} {Q : VK} (d : Addr) (kvs : List (Key × V)) (f : Key → Bool) (g : Key × V → V) (e : H d = some (.dK kvs)) (hlen : kvs.length ≤ 90000) (nd : (kvs.map (·.1)).Nodup)
    (htd : ∀ od, EI td σ (upd H d (.frz od (.dK kvs))) (.ref d))
    (hw : ∀ x, wipe ((wipe σ [s]).set s (some x)) [s] = wipe σ [s])
    (ht : ∀ (od : Obj) (i : Nat) (k : Key) (v : V) (G : Hp) (Q' : Bool → Hp → Prop), kvs[i]? = some (k, v) → Same (upd H d (.frz od (.dK kvs))) G → Q' (f k) G → tt ((wipe σ [s]).set s (some (kV k))) G Q')
    (he : ∀ (od : Obj) (i : Nat) (k : Key) (v : V) (G : Hp) (Q' : VK), kvs[i]? = some (k, v) → f k = true → Same (upd H d (.frz od (.dK kvs))) G → Q' (g (k, v)) G → tv ((wipe σ [s]).set s (some (kV k))) G Q')
    (hn : ∀ i, (wipe σ [s]).length = i → s < i)
    (k : ∀ D H', H D = none → Same H H' → H' D = some (.dK ((kvs.filter fun kv => f kv.1).map fun kv => (kv.1, g kv))) → Q (.ref D) H') : tLockE (tDc (iKeys td) (gName s) tt (tVar s) tv [s]) σ H Q := by
  have hs : s < (wipe σ [s]).length := hn _ rfl
  refine ⟨d, _, e, trivial, fun od => htd od _ (Same.refl _) _ ⟨d, od, rfl, .inl ⟨kvs, upd_same, fun D hD => ?_⟩⟩⟩
  have nD : D ≠ d := fun z => by rw [z, upd_same] at hD; cases hD
  have hD0 : H D = none := by rw [upd_ne nD] at hD; exact hD
  let Pv : Nat → Hp → Prop := fun i G => Same (upd H d (.frz od (.dK kvs))) G ∧ G D = some (.dK (((kvs.take i).filter fun kv => f kv.1).map fun kv => (kv.1, g kv)))
  have step : ∀ i x G G', i < kvs.length → Pv i G → (G' = G ∧ ∃ k v, kvs[i]? = some (k, v) ∧ x = kV k) → gName s x (wipe σ [s]) G' fun σ2 H2 => wipe σ2 [s] = wipe σ [s] ∧ tt σ2 H2 fun b H3 =>
      if b = true then tVar s σ2 H3 fun y H4 => tv σ2 H4 fun z H5 => ∃ kvs' k', y = kV k' ∧ H5 D = some (.dK kvs') ∧ kvs'.length < sizeLine ∧ Pv (i + 1) (upd H5 D (.dK (putK kvs' k' z))) else Pv (i + 1) H3 := fun i x G G' hi hG hy => by
    obtain ⟨rfl, key, v, hkv, rfl⟩ := hy
    have hfl : ((kvs.take i).filter fun kv => f kv.1).length ≤ 90000 := Nat.le_trans (List.length_filter_le _ _) (by rw [List.length_take]; omega)
    refine ⟨hw _, ht od i key v _ _ hkv hG.1 ?_⟩
    have hts := take_filter (fun kv : Key × V => f kv.1) hkv
    cases hf : f key with
    | true =>
      refine (if_pos rfl).mpr ⟨kV key, by rw [List.getElem?_set_self hs], he od i key v _ _ hkv hf hG.1 ⟨_, key, rfl, hG.2, szl (by rw [List.length_map]; omega), same_put hG.1 hD, ?_⟩⟩
      rw [upd_same, hts, List.map_append, put_fresh]
      · simp only [hf, if_true]
        rfl
      · intro kv hm
        obtain ⟨y, hy, rfl⟩ := List.mem_map.mp hm
        exact nd_ne nd hkv y (List.mem_filter.mp hy).1
    | false =>
      refine (if_neg Bool.false_ne_true).mpr ⟨hG.1, ?_⟩
      rw [hts]
      simp only [hf, Bool.false_eq_true, if_false, List.append_nil]
      exact hG.2
  refine ⟨fun i m G => m = kvs.length - i ∧ i ≤ kvs.length ∧ Pv i G, ⟨kvs.length, by simp, Nat.zero_le _, same_upd hD, upd_same⟩, ?_⟩
  rintro i m G ⟨rfl, hi, hP⟩
  by_cases hlt : i < kvs.length
  · exact .inr ⟨⟨hP.1 _ _ upd_same, hlt⟩, Pv (i + 1), fun G' p' => ⟨kvs.length - (i + 1), by omega, rfl, hlt, p'⟩, fun x G' y => step i x G G' hlt hP y⟩
  · have ei : i = kvs.length := by omega
    subst ei
    obtain ⟨h1, h2⟩ := hP
    rw [List.take_length] at h2
    refine .inl ⟨⟨h1 _ _ upd_same, Nat.le_refl _⟩, h1 _ _ upd_same, k D _ hD0 (unlock e h1) ?_⟩
    rw [upd_ne nD]
    exact h2
/-! the same within a comprehension -/
section
variable {K : PySem.W.Frag} {X : Cx} {pos : Pos}
theorem pgK_tup {es : List Expr} {k : Nat} {t : TGs} {n : Nat} (hK : X.K = K) (hc : X.calm = true) (h : PGs X es t)
    (hn : (assignEach es X.env).length = n := by rfl) (hst : (assignEach es X.env).findIdx? (·.1) = none := by rfl) : PG X (.Tuple es k pos) (gTup K n t) := by subst hK; exact pg_tup hc h hn hst
theorem opK_in (h : X.K = K) : OpR X (compareOp .In) (rIn K false) := by subst h; exact op_in_seq
theorem opK_notIn (h : X.K = K) : OpR X (compareOp .NotIn) (rIn K true) := by subst h; exact op_notIn_seq
theorem opK_eqD (h : X.K = K) (hu : X.A.units + 64 < cLine) : OpR X (compareOp .Eq) (rEqD K) := by subst h; exact op_eqD hu
theorem opK_neD (h : X.K = K) (hu : X.A.units + 64 < cLine) : OpR X (compareOp .NotEq) (rNeD K) := by subst h; exact op_neD hu
theorem callK_isi (h : X.K = K) : CallR X (.builtin "isinstance") (rIsi K) := by subst h; exact call_isi
theorem slK_tup (h : X.K = K) : SlR X (rSlT K) := by subst h; exact sl_tup
end
end My
local macro_rules | `(tactic| walk_at "go") => `(tactic| try dsimp only [L2.gName, L2.tSeq, L2.tAsg, L2.tNext, L2.tDrop])
namespace My
open PySem PySem.Spec PyProof.Rows L2
def topS (i : Nat) : Stmt := PySem.Challenge.pw_majordomo_k67_room_on_a_node.main.body.getD i (.Pass ⟨0, 0, 0, 0⟩)
abbrev s_free_size : Stmt := (topS 3)
theorem sc_free_size : FnScope ["node_value", "assumed", "size", "used", "_"] ["node_value", "assumed"] (defScope s_free_size) := ⟨rfl, rfl, rfl, by decide +kernel, rfl, by decide +kernel, by decide +kernel⟩
abbrev s_is_open : Stmt := (topS 4)
theorem sc_is_open : FnScope ["node_value", "_", "life", "lost"] ["node_value"] (defScope s_is_open) := ⟨rfl, rfl, rfl, by decide +kernel, rfl, by decide +kernel, by decide +kernel⟩
abbrev s_fits : Stmt := (topS 5)
theorem sc_fits : FnScope ["task_value", "node_value", "drained", "assumed", "_", "zone"] ["task_value", "node_value", "drained", "assumed"] (defScope s_fits) := ⟨rfl, rfl, rfl, by decide +kernel, rfl, by decide +kernel, by decide +kernel⟩
abbrev s__law_number : Stmt := (topS 7)
theorem sc__law_number : FnScope ["script", "k", "cell"] ["script", "k"] (defScope s__law_number) := ⟨rfl, rfl, rfl, by decide +kernel, rfl, by decide +kernel, by decide +kernel⟩
abbrev s__law_digits : Stmt := (topS 8)
theorem sc__law_digits : FnScope ["script", "k", "sizes", "number", "digits", "size"] ["script", "k", "sizes"] (defScope s__law_digits) := ⟨rfl, rfl, rfl, by decide +kernel, rfl, by decide +kernel, by decide +kernel⟩
abbrev s__law_zone : Stmt := (topS 9)
theorem sc__law_zone : FnScope ["digit", "zones"] ["digit"] (defScope s__law_zone) := ⟨rfl, rfl, rfl, by decide +kernel, rfl, by decide +kernel, by decide +kernel⟩
abbrev s__law_due : Stmt := (topS 10)
theorem sc__law_due : FnScope ["node", "task", "drained", "assumed"] ["node", "task", "drained", "assumed"] (defScope s__law_due) := ⟨rfl, rfl, rfl, by decide +kernel, rfl, by decide +kernel, by decide +kernel⟩
abbrev s__law_bool : Stmt := (topS 11)
theorem sc__law_bool : FnScope ["actual", "due"] ["actual", "due"] (defScope s__law_bool) := ⟨rfl, rfl, rfl, by decide +kernel, rfl, by decide +kernel, by decide +kernel⟩
abbrev s__law_agrees : Stmt := (topS 12)
theorem sc__law_agrees : FnScope ["node", "task", "drained", "assumed", "free"] ["node", "task", "drained", "assumed"] (defScope s__law_agrees) := ⟨rfl, rfl, rfl, by decide +kernel, rfl, by decide +kernel, by decide +kernel⟩
abbrev s_law : Stmt := (topS 13)
theorem sc_law : FnScope ["script", "k", "size", "used", "life", "lost", "zone", "node", "born", "need", "place", "task", "more", "some", "drain", "assumed", "exact", "less", "same"] ["script"] (defScope s_law) := ⟨rfl, rfl, rfl, by decide +kernel, rfl, by decide +kernel, by decide +kernel⟩

structure TX (K : PySem.W.Frag) (mg : Str → Option Value) where
  a_free_size : Addr
  d_free_size : FuncData
  F_free_size : Fun K "free_size" "free_size" s_free_size a_free_size d_free_size
  b_free_size : Binds K d_free_size ["node_value", "assumed"] []
  g_free_size : mg "free_size" = some (.ref a_free_size)
  a_is_open : Addr
  d_is_open : FuncData
  F_is_open : Fun K "is_open" "is_open" s_is_open a_is_open d_is_open
  b_is_open : Binds K d_is_open ["node_value"] []
  g_is_open : mg "is_open" = some (.ref a_is_open)
  a_fits : Addr
  d_fits : FuncData
  F_fits : Fun K "fits" "fits" s_fits a_fits d_fits
  b_fits : Binds K d_fits ["task_value", "node_value", "drained", "assumed"] []
  g_fits : mg "fits" = some (.ref a_fits)
  a__law_number : Addr
  d__law_number : FuncData
  F__law_number : Fun K "_law_number" "_law_number" s__law_number a__law_number d__law_number
  b__law_number : Binds K d__law_number ["script", "k"] []
  g__law_number : mg "_law_number" = some (.ref a__law_number)
  a__law_digits : Addr
  d__law_digits : FuncData
  F__law_digits : Fun K "_law_digits" "_law_digits" s__law_digits a__law_digits d__law_digits
  b__law_digits : Binds K d__law_digits ["script", "k", "sizes"] []
  g__law_digits : mg "_law_digits" = some (.ref a__law_digits)
  a__law_zone : Addr
  d__law_zone : FuncData
  F__law_zone : Fun K "_law_zone" "_law_zone" s__law_zone a__law_zone d__law_zone
  b__law_zone : Binds K d__law_zone ["digit"] []
  g__law_zone : mg "_law_zone" = some (.ref a__law_zone)
  a__law_due : Addr
  d__law_due : FuncData
  F__law_due : Fun K "_law_due" "_law_due" s__law_due a__law_due d__law_due
  b__law_due : Binds K d__law_due ["node", "task", "drained", "assumed"] []
  g__law_due : mg "_law_due" = some (.ref a__law_due)
  a__law_bool : Addr
  d__law_bool : FuncData
  F__law_bool : Fun K "_law_bool" "_law_bool" s__law_bool a__law_bool d__law_bool
  b__law_bool : Binds K d__law_bool ["actual", "due"] []
  g__law_bool : mg "_law_bool" = some (.ref a__law_bool)
  a__law_agrees : Addr
  d__law_agrees : FuncData
  F__law_agrees : Fun K "_law_agrees" "_law_agrees" s__law_agrees a__law_agrees d__law_agrees
  b__law_agrees : Binds K d__law_agrees ["node", "task", "drained", "assumed"] []
  g__law_agrees : mg "_law_agrees" = some (.ref a__law_agrees)
  a_law : Addr
  d_law : FuncData
  F_law : Fun K "law" "law" s_law a_law d_law
  b_law : Binds K d_law ["script"] []
  g_law : mg "law" = some (.ref a_law)
  t_SIZE : Tok
  c_SIZE : mg "SIZE" = some (.int 2 t_SIZE)
  t_ZONE : Tok
  c_ZONE : mg "ZONE" = some (.int 7 t_ZONE)
  n_len : mg "len" = none
  n_abs : mg "abs" = none
  n_int : mg "int" = none
  n_isinstance : mg "isinstance" = none
  n_bool : mg "bool" = none
  n_range : mg "range" = none
  n_max : mg "max" = none


/-- a statement that changes nothing, then the rest -/
theorem cut_same {t u : TS} {D : L2.Ends} {σ : L2.St} {H : Hp} (h1 : t { D with nx := fun σ' G => σ' = σ ∧ G = H } σ H) (h2 : u D σ H) : C8.tCut t u D σ H := ⟨_, h1, fun _ _ ⟨a, b⟩ => by rw [a, b]; exact h2⟩
/-- the slots written out -/
theorem nrm4 {t : TS} {D : L2.Ends} {σ : L2.St} {H : Hp} {a0 a1 a2 a3 : Option V} (e : σ = [a0, a1, a2, a3]) (h : t D [a0, a1, a2, a3] H) : t D σ H := by rw [e]; exact h
theorem nrm5 {t : TS} {D : L2.Ends} {σ : L2.St} {H : Hp} {a0 a1 a2 a3 a4 : Option V} (e : σ = [a0, a1, a2, a3, a4]) (h : t D [a0, a1, a2, a3, a4] H) : t D σ H := by rw [e]; exact h
theorem nrm6 {t : TS} {D : L2.Ends} {σ : L2.St} {H : Hp} {a0 a1 a2 a3 a4 a5 : Option V} (e : σ = [a0, a1, a2, a3, a4, a5]) (h : t D [a0, a1, a2, a3, a4, a5] H) : t D σ H := by rw [e]; exact h
theorem nrm7 {t : TS} {D : L2.Ends} {σ : L2.St} {H : Hp} {a0 a1 a2 a3 a4 a5 a6 : Option V} (e : σ = [a0, a1, a2, a3, a4, a5, a6]) (h : t D [a0, a1, a2, a3, a4, a5, a6] H) : t D σ H := by rw [e]; exact h
theorem nrm8 {t : TS} {D : L2.Ends} {σ : L2.St} {H : Hp} {a0 a1 a2 a3 a4 a5 a6 a7 : Option V} (e : σ = [a0, a1, a2, a3, a4, a5, a6, a7]) (h : t D [a0, a1, a2, a3, a4, a5, a6, a7] H) : t D σ H := by rw [e]; exact h
theorem nrm9 {t : TS} {D : L2.Ends} {σ : L2.St} {H : Hp} {a0 a1 a2 a3 a4 a5 a6 a7 a8 : Option V} (e : σ = [a0, a1, a2, a3, a4, a5, a6, a7, a8]) (h : t D [a0, a1, a2, a3, a4, a5, a6, a7, a8] H) : t D σ H := by rw [e]; exact h
theorem nrm10 {t : TS} {D : L2.Ends} {σ : L2.St} {H : Hp} {a0 a1 a2 a3 a4 a5 a6 a7 a8 a9 : Option V} (e : σ = [a0, a1, a2, a3, a4, a5, a6, a7, a8, a9]) (h : t D [a0, a1, a2, a3, a4, a5, a6, a7, a8, a9] H) : t D σ H := by rw [e]; exact h
theorem nrm11 {t : TS} {D : L2.Ends} {σ : L2.St} {H : Hp} {a0 a1 a2 a3 a4 a5 a6 a7 a8 a9 a10 : Option V} (e : σ = [a0, a1, a2, a3, a4, a5, a6, a7, a8, a9, a10]) (h : t D [a0, a1, a2, a3, a4, a5, a6, a7, a8, a9, a10] H) : t D σ H := by rw [e]; exact h
theorem nrm12 {t : TS} {D : L2.Ends} {σ : L2.St} {H : Hp} {a0 a1 a2 a3 a4 a5 a6 a7 a8 a9 a10 a11 : Option V} (e : σ = [a0, a1, a2, a3, a4, a5, a6, a7, a8, a9, a10, a11]) (h : t D [a0, a1, a2, a3, a4, a5, a6, a7, a8, a9, a10, a11] H) : t D σ H := by rw [e]; exact h
theorem nrm13 {t : TS} {D : L2.Ends} {σ : L2.St} {H : Hp} {a0 a1 a2 a3 a4 a5 a6 a7 a8 a9 a10 a11 a12 : Option V} (e : σ = [a0, a1, a2, a3, a4, a5, a6, a7, a8, a9, a10, a11, a12]) (h : t D [a0, a1, a2, a3, a4, a5, a6, a7, a8, a9, a10, a11, a12] H) : t D σ H := by rw [e]; exact h
theorem nrm14 {t : TS} {D : L2.Ends} {σ : L2.St} {H : Hp} {a0 a1 a2 a3 a4 a5 a6 a7 a8 a9 a10 a11 a12 a13 : Option V} (e : σ = [a0, a1, a2, a3, a4, a5, a6, a7, a8, a9, a10, a11, a12, a13]) (h : t D [a0, a1, a2, a3, a4, a5, a6, a7, a8, a9, a10, a11, a12, a13] H) : t D σ H := by rw [e]; exact h
theorem nrm15 {t : TS} {D : L2.Ends} {σ : L2.St} {H : Hp} {a0 a1 a2 a3 a4 a5 a6 a7 a8 a9 a10 a11 a12 a13 a14 : Option V} (e : σ = [a0, a1, a2, a3, a4, a5, a6, a7, a8, a9, a10, a11, a12, a13, a14]) (h : t D [a0, a1, a2, a3, a4, a5, a6, a7, a8, a9, a10, a11, a12, a13, a14] H) : t D σ H := by rw [e]; exact h
theorem nrm16 {t : TS} {D : L2.Ends} {σ : L2.St} {H : Hp} {a0 a1 a2 a3 a4 a5 a6 a7 a8 a9 a10 a11 a12 a13 a14 a15 : Option V} (e : σ = [a0, a1, a2, a3, a4, a5, a6, a7, a8, a9, a10, a11, a12, a13, a14, a15]) (h : t D [a0, a1, a2, a3, a4, a5, a6, a7, a8, a9, a10, a11, a12, a13, a14, a15] H) : t D σ H := by rw [e]; exact h
theorem nrm17 {t : TS} {D : L2.Ends} {σ : L2.St} {H : Hp} {a0 a1 a2 a3 a4 a5 a6 a7 a8 a9 a10 a11 a12 a13 a14 a15 a16 : Option V} (e : σ = [a0, a1, a2, a3, a4, a5, a6, a7, a8, a9, a10, a11, a12, a13, a14, a15, a16]) (h : t D [a0, a1, a2, a3, a4, a5, a6, a7, a8, a9, a10, a11, a12, a13, a14, a15, a16] H) : t D σ H := by rw [e]; exact h
theorem nrm18 {t : TS} {D : L2.Ends} {σ : L2.St} {H : Hp} {a0 a1 a2 a3 a4 a5 a6 a7 a8 a9 a10 a11 a12 a13 a14 a15 a16 a17 : Option V} (e : σ = [a0, a1, a2, a3, a4, a5, a6, a7, a8, a9, a10, a11, a12, a13, a14, a15, a16, a17]) (h : t D [a0, a1, a2, a3, a4, a5, a6, a7, a8, a9, a10, a11, a12, a13, a14, a15, a16, a17] H) : t D σ H := by rw [e]; exact h
theorem nrm19 {t : TS} {D : L2.Ends} {σ : L2.St} {H : Hp} {a0 a1 a2 a3 a4 a5 a6 a7 a8 a9 a10 a11 a12 a13 a14 a15 a16 a17 a18 : Option V} (e : σ = [a0, a1, a2, a3, a4, a5, a6, a7, a8, a9, a10, a11, a12, a13, a14, a15, a16, a17, a18]) (h : t D [a0, a1, a2, a3, a4, a5, a6, a7, a8, a9, a10, a11, a12, a13, a14, a15, a16, a17, a18] H) : t D σ H := by rw [e]; exact h
theorem nrm20 {t : TS} {D : L2.Ends} {σ : L2.St} {H : Hp} {a0 a1 a2 a3 a4 a5 a6 a7 a8 a9 a10 a11 a12 a13 a14 a15 a16 a17 a18 a19 : Option V} (e : σ = [a0, a1, a2, a3, a4, a5, a6, a7, a8, a9, a10, a11, a12, a13, a14, a15, a16, a17, a18, a19]) (h : t D [a0, a1, a2, a3, a4, a5, a6, a7, a8, a9, a10, a11, a12, a13, a14, a15, a16, a17, a18, a19] H) : t D σ H := by rw [e]; exact h
theorem nrm21 {t : TS} {D : L2.Ends} {σ : L2.St} {H : Hp} {a0 a1 a2 a3 a4 a5 a6 a7 a8 a9 a10 a11 a12 a13 a14 a15 a16 a17 a18 a19 a20 : Option V} (e : σ = [a0, a1, a2, a3, a4, a5, a6, a7, a8, a9, a10, a11, a12, a13, a14, a15, a16, a17, a18, a19, a20]) (h : t D [a0, a1, a2, a3, a4, a5, a6, a7, a8, a9, a10, a11, a12, a13, a14, a15, a16, a17, a18, a19, a20] H) : t D σ H := by rw [e]; exact h
theorem nrm22 {t : TS} {D : L2.Ends} {σ : L2.St} {H : Hp} {a0 a1 a2 a3 a4 a5 a6 a7 a8 a9 a10 a11 a12 a13 a14 a15 a16 a17 a18 a19 a20 a21 : Option V} (e : σ = [a0, a1, a2, a3, a4, a5, a6, a7, a8, a9, a10, a11, a12, a13, a14, a15, a16, a17, a18, a19, a20, a21]) (h : t D [a0, a1, a2, a3, a4, a5, a6, a7, a8, a9, a10, a11, a12, a13, a14, a15, a16, a17, a18, a19, a20, a21] H) : t D σ H := by rw [e]; exact h
theorem nrm23 {t : TS} {D : L2.Ends} {σ : L2.St} {H : Hp} {a0 a1 a2 a3 a4 a5 a6 a7 a8 a9 a10 a11 a12 a13 a14 a15 a16 a17 a18 a19 a20 a21 a22 : Option V} (e : σ = [a0, a1, a2, a3, a4, a5, a6, a7, a8, a9, a10, a11, a12, a13, a14, a15, a16, a17, a18, a19, a20, a21, a22]) (h : t D [a0, a1, a2, a3, a4, a5, a6, a7, a8, a9, a10, a11, a12, a13, a14, a15, a16, a17, a18, a19, a20, a21, a22] H) : t D σ H := by rw [e]; exact h
theorem nrm24 {t : TS} {D : L2.Ends} {σ : L2.St} {H : Hp} {a0 a1 a2 a3 a4 a5 a6 a7 a8 a9 a10 a11 a12 a13 a14 a15 a16 a17 a18 a19 a20 a21 a22 a23 : Option V} (e : σ = [a0, a1, a2, a3, a4, a5, a6, a7, a8, a9, a10, a11, a12, a13, a14, a15, a16, a17, a18, a19, a20, a21, a22, a23]) (h : t D [a0, a1, a2, a3, a4, a5, a6, a7, a8, a9, a10, a11, a12, a13, a14, a15, a16, a17, a18, a19, a20, a21, a22, a23] H) : t D σ H := by rw [e]; exact h
theorem nrm25 {t : TS} {D : L2.Ends} {σ : L2.St} {H : Hp} {a0 a1 a2 a3 a4 a5 a6 a7 a8 a9 a10 a11 a12 a13 a14 a15 a16 a17 a18 a19 a20 a21 a22 a23 a24 : Option V} (e : σ = [a0, a1, a2, a3, a4, a5, a6, a7, a8, a9, a10, a11, a12, a13, a14, a15, a16, a17, a18, a19, a20, a21, a22, a23, a24]) (h : t D [a0, a1, a2, a3, a4, a5, a6, a7, a8, a9, a10, a11, a12, a13, a14, a15, a16, a17, a18, a19, a20, a21, a22, a23, a24] H) : t D σ H := by rw [e]; exact h
theorem nrm26 {t : TS} {D : L2.Ends} {σ : L2.St} {H : Hp} {a0 a1 a2 a3 a4 a5 a6 a7 a8 a9 a10 a11 a12 a13 a14 a15 a16 a17 a18 a19 a20 a21 a22 a23 a24 a25 : Option V} (e : σ = [a0, a1, a2, a3, a4, a5, a6, a7, a8, a9, a10, a11, a12, a13, a14, a15, a16, a17, a18, a19, a20, a21, a22, a23, a24, a25]) (h : t D [a0, a1, a2, a3, a4, a5, a6, a7, a8, a9, a10, a11, a12, a13, a14, a15, a16, a17, a18, a19, a20, a21, a22, a23, a24, a25] H) : t D σ H := by rw [e]; exact h
/-- a name is stored, the slots written out -/
theorem gnm4 {i : Nat} {v : V} {σ : L2.St} {H : Hp} {Q : L2.St → Hp → Prop} {a0 a1 a2 a3 : Option V} (e : σ.set i (some v) = [a0, a1, a2, a3]) (h : Q [a0, a1, a2, a3] H) : gName i v σ H Q := by show Q (σ.set i (some v)) H; rw [e]; exact h
theorem gnm5 {i : Nat} {v : V} {σ : L2.St} {H : Hp} {Q : L2.St → Hp → Prop} {a0 a1 a2 a3 a4 : Option V} (e : σ.set i (some v) = [a0, a1, a2, a3, a4]) (h : Q [a0, a1, a2, a3, a4] H) : gName i v σ H Q := by show Q (σ.set i (some v)) H; rw [e]; exact h
theorem gnm6 {i : Nat} {v : V} {σ : L2.St} {H : Hp} {Q : L2.St → Hp → Prop} {a0 a1 a2 a3 a4 a5 : Option V} (e : σ.set i (some v) = [a0, a1, a2, a3, a4, a5]) (h : Q [a0, a1, a2, a3, a4, a5] H) : gName i v σ H Q := by show Q (σ.set i (some v)) H; rw [e]; exact h
theorem gnm7 {i : Nat} {v : V} {σ : L2.St} {H : Hp} {Q : L2.St → Hp → Prop} {a0 a1 a2 a3 a4 a5 a6 : Option V} (e : σ.set i (some v) = [a0, a1, a2, a3, a4, a5, a6]) (h : Q [a0, a1, a2, a3, a4, a5, a6] H) : gName i v σ H Q := by show Q (σ.set i (some v)) H; rw [e]; exact h
theorem gnm8 {i : Nat} {v : V} {σ : L2.St} {H : Hp} {Q : L2.St → Hp → Prop} {a0 a1 a2 a3 a4 a5 a6 a7 : Option V} (e : σ.set i (some v) = [a0, a1, a2, a3, a4, a5, a6, a7]) (h : Q [a0, a1, a2, a3, a4, a5, a6, a7] H) : gName i v σ H Q := by show Q (σ.set i (some v)) H; rw [e]; exact h
theorem gnm9 {i : Nat} {v : V} {σ : L2.St} {H : Hp} {Q : L2.St → Hp → Prop} {a0 a1 a2 a3 a4 a5 a6 a7 a8 : Option V} (e : σ.set i (some v) = [a0, a1, a2, a3, a4, a5, a6, a7, a8]) (h : Q [a0, a1, a2, a3, a4, a5, a6, a7, a8] H) : gName i v σ H Q := by show Q (σ.set i (some v)) H; rw [e]; exact h
theorem gnm10 {i : Nat} {v : V} {σ : L2.St} {H : Hp} {Q : L2.St → Hp → Prop} {a0 a1 a2 a3 a4 a5 a6 a7 a8 a9 : Option V} (e : σ.set i (some v) = [a0, a1, a2, a3, a4, a5, a6, a7, a8, a9]) (h : Q [a0, a1, a2, a3, a4, a5, a6, a7, a8, a9] H) : gName i v σ H Q := by show Q (σ.set i (some v)) H; rw [e]; exact h
theorem gnm11 {i : Nat} {v : V} {σ : L2.St} {H : Hp} {Q : L2.St → Hp → Prop} {a0 a1 a2 a3 a4 a5 a6 a7 a8 a9 a10 : Option V} (e : σ.set i (some v) = [a0, a1, a2, a3, a4, a5, a6, a7, a8, a9, a10]) (h : Q [a0, a1, a2, a3, a4, a5, a6, a7, a8, a9, a10] H) : gName i v σ H Q := by show Q (σ.set i (some v)) H; rw [e]; exact h
theorem gnm12 {i : Nat} {v : V} {σ : L2.St} {H : Hp} {Q : L2.St → Hp → Prop} {a0 a1 a2 a3 a4 a5 a6 a7 a8 a9 a10 a11 : Option V} (e : σ.set i (some v) = [a0, a1, a2, a3, a4, a5, a6, a7, a8, a9, a10, a11]) (h : Q [a0, a1, a2, a3, a4, a5, a6, a7, a8, a9, a10, a11] H) : gName i v σ H Q := by show Q (σ.set i (some v)) H; rw [e]; exact h
theorem gnm13 {i : Nat} {v : V} {σ : L2.St} {H : Hp} {Q : L2.St → Hp → Prop} {a0 a1 a2 a3 a4 a5 a6 a7 a8 a9 a10 a11 a12 : Option V} (e : σ.set i (some v) = [a0, a1, a2, a3, a4, a5, a6, a7, a8, a9, a10, a11, a12]) (h : Q [a0, a1, a2, a3, a4, a5, a6, a7, a8, a9, a10, a11, a12] H) : gName i v σ H Q := by show Q (σ.set i (some v)) H; rw [e]; exact h
theorem gnm14 {i : Nat} {v : V} {σ : L2.St} {H : Hp} {Q : L2.St → Hp → Prop} {a0 a1 a2 a3 a4 a5 a6 a7 a8 a9 a10 a11 a12 a13 : Option V} (e : σ.set i (some v) = [a0, a1, a2, a3, a4, a5, a6, a7, a8, a9, a10, a11, a12, a13]) (h : Q [a0, a1, a2, a3, a4, a5, a6, a7, a8, a9, a10, a11, a12, a13] H) : gName i v σ H Q := by show Q (σ.set i (some v)) H; rw [e]; exact h
theorem gnm15 {i : Nat} {v : V} {σ : L2.St} {H : Hp} {Q : L2.St → Hp → Prop} {a0 a1 a2 a3 a4 a5 a6 a7 a8 a9 a10 a11 a12 a13 a14 : Option V} (e : σ.set i (some v) = [a0, a1, a2, a3, a4, a5, a6, a7, a8, a9, a10, a11, a12, a13, a14]) (h : Q [a0, a1, a2, a3, a4, a5, a6, a7, a8, a9, a10, a11, a12, a13, a14] H) : gName i v σ H Q := by show Q (σ.set i (some v)) H; rw [e]; exact h
theorem gnm16 {i : Nat} {v : V} {σ : L2.St} {H : Hp} {Q : L2.St → Hp → Prop} {a0 a1 a2 a3 a4 a5 a6 a7 a8 a9 a10 a11 a12 a13 a14 a15 : Option V} (e : σ.set i (some v) = [a0, a1, a2, a3, a4, a5, a6, a7, a8, a9, a10, a11, a12, a13, a14, a15]) (h : Q [a0, a1, a2, a3, a4, a5, a6, a7, a8, a9, a10, a11, a12, a13, a14, a15] H) : gName i v σ H Q := by show Q (σ.set i (some v)) H; rw [e]; exact h
theorem gnm17 {i : Nat} {v : V} {σ : L2.St} {H : Hp} {Q : L2.St → Hp → Prop} {a0 a1 a2 a3 a4 a5 a6 a7 a8 a9 a10 a11 a12 a13 a14 a15 a16 : Option V} (e : σ.set i (some v) = [a0, a1, a2, a3, a4, a5, a6, a7, a8, a9, a10, a11, a12, a13, a14, a15, a16]) (h : Q [a0, a1, a2, a3, a4, a5, a6, a7, a8, a9, a10, a11, a12, a13, a14, a15, a16] H) : gName i v σ H Q := by show Q (σ.set i (some v)) H; rw [e]; exact h
theorem gnm18 {i : Nat} {v : V} {σ : L2.St} {H : Hp} {Q : L2.St → Hp → Prop} {a0 a1 a2 a3 a4 a5 a6 a7 a8 a9 a10 a11 a12 a13 a14 a15 a16 a17 : Option V} (e : σ.set i (some v) = [a0, a1, a2, a3, a4, a5, a6, a7, a8, a9, a10, a11, a12, a13, a14, a15, a16, a17]) (h : Q [a0, a1, a2, a3, a4, a5, a6, a7, a8, a9, a10, a11, a12, a13, a14, a15, a16, a17] H) : gName i v σ H Q := by show Q (σ.set i (some v)) H; rw [e]; exact h
theorem gnm19 {i : Nat} {v : V} {σ : L2.St} {H : Hp} {Q : L2.St → Hp → Prop} {a0 a1 a2 a3 a4 a5 a6 a7 a8 a9 a10 a11 a12 a13 a14 a15 a16 a17 a18 : Option V} (e : σ.set i (some v) = [a0, a1, a2, a3, a4, a5, a6, a7, a8, a9, a10, a11, a12, a13, a14, a15, a16, a17, a18]) (h : Q [a0, a1, a2, a3, a4, a5, a6, a7, a8, a9, a10, a11, a12, a13, a14, a15, a16, a17, a18] H) : gName i v σ H Q := by show Q (σ.set i (some v)) H; rw [e]; exact h
theorem gnm20 {i : Nat} {v : V} {σ : L2.St} {H : Hp} {Q : L2.St → Hp → Prop} {a0 a1 a2 a3 a4 a5 a6 a7 a8 a9 a10 a11 a12 a13 a14 a15 a16 a17 a18 a19 : Option V} (e : σ.set i (some v) = [a0, a1, a2, a3, a4, a5, a6, a7, a8, a9, a10, a11, a12, a13, a14, a15, a16, a17, a18, a19]) (h : Q [a0, a1, a2, a3, a4, a5, a6, a7, a8, a9, a10, a11, a12, a13, a14, a15, a16, a17, a18, a19] H) : gName i v σ H Q := by show Q (σ.set i (some v)) H; rw [e]; exact h
theorem gnm21 {i : Nat} {v : V} {σ : L2.St} {H : Hp} {Q : L2.St → Hp → Prop} {a0 a1 a2 a3 a4 a5 a6 a7 a8 a9 a10 a11 a12 a13 a14 a15 a16 a17 a18 a19 a20 : Option V} (e : σ.set i (some v) = [a0, a1, a2, a3, a4, a5, a6, a7, a8, a9, a10, a11, a12, a13, a14, a15, a16, a17, a18, a19, a20]) (h : Q [a0, a1, a2, a3, a4, a5, a6, a7, a8, a9, a10, a11, a12, a13, a14, a15, a16, a17, a18, a19, a20] H) : gName i v σ H Q := by show Q (σ.set i (some v)) H; rw [e]; exact h
theorem gnm22 {i : Nat} {v : V} {σ : L2.St} {H : Hp} {Q : L2.St → Hp → Prop} {a0 a1 a2 a3 a4 a5 a6 a7 a8 a9 a10 a11 a12 a13 a14 a15 a16 a17 a18 a19 a20 a21 : Option V} (e : σ.set i (some v) = [a0, a1, a2, a3, a4, a5, a6, a7, a8, a9, a10, a11, a12, a13, a14, a15, a16, a17, a18, a19, a20, a21]) (h : Q [a0, a1, a2, a3, a4, a5, a6, a7, a8, a9, a10, a11, a12, a13, a14, a15, a16, a17, a18, a19, a20, a21] H) : gName i v σ H Q := by show Q (σ.set i (some v)) H; rw [e]; exact h
theorem gnm23 {i : Nat} {v : V} {σ : L2.St} {H : Hp} {Q : L2.St → Hp → Prop} {a0 a1 a2 a3 a4 a5 a6 a7 a8 a9 a10 a11 a12 a13 a14 a15 a16 a17 a18 a19 a20 a21 a22 : Option V} (e : σ.set i (some v) = [a0, a1, a2, a3, a4, a5, a6, a7, a8, a9, a10, a11, a12, a13, a14, a15, a16, a17, a18, a19, a20, a21, a22]) (h : Q [a0, a1, a2, a3, a4, a5, a6, a7, a8, a9, a10, a11, a12, a13, a14, a15, a16, a17, a18, a19, a20, a21, a22] H) : gName i v σ H Q := by show Q (σ.set i (some v)) H; rw [e]; exact h
theorem gnm24 {i : Nat} {v : V} {σ : L2.St} {H : Hp} {Q : L2.St → Hp → Prop} {a0 a1 a2 a3 a4 a5 a6 a7 a8 a9 a10 a11 a12 a13 a14 a15 a16 a17 a18 a19 a20 a21 a22 a23 : Option V} (e : σ.set i (some v) = [a0, a1, a2, a3, a4, a5, a6, a7, a8, a9, a10, a11, a12, a13, a14, a15, a16, a17, a18, a19, a20, a21, a22, a23]) (h : Q [a0, a1, a2, a3, a4, a5, a6, a7, a8, a9, a10, a11, a12, a13, a14, a15, a16, a17, a18, a19, a20, a21, a22, a23] H) : gName i v σ H Q := by show Q (σ.set i (some v)) H; rw [e]; exact h
theorem gnm25 {i : Nat} {v : V} {σ : L2.St} {H : Hp} {Q : L2.St → Hp → Prop} {a0 a1 a2 a3 a4 a5 a6 a7 a8 a9 a10 a11 a12 a13 a14 a15 a16 a17 a18 a19 a20 a21 a22 a23 a24 : Option V} (e : σ.set i (some v) = [a0, a1, a2, a3, a4, a5, a6, a7, a8, a9, a10, a11, a12, a13, a14, a15, a16, a17, a18, a19, a20, a21, a22, a23, a24]) (h : Q [a0, a1, a2, a3, a4, a5, a6, a7, a8, a9, a10, a11, a12, a13, a14, a15, a16, a17, a18, a19, a20, a21, a22, a23, a24] H) : gName i v σ H Q := by show Q (σ.set i (some v)) H; rw [e]; exact h
theorem gnm26 {i : Nat} {v : V} {σ : L2.St} {H : Hp} {Q : L2.St → Hp → Prop} {a0 a1 a2 a3 a4 a5 a6 a7 a8 a9 a10 a11 a12 a13 a14 a15 a16 a17 a18 a19 a20 a21 a22 a23 a24 a25 : Option V} (e : σ.set i (some v) = [a0, a1, a2, a3, a4, a5, a6, a7, a8, a9, a10, a11, a12, a13, a14, a15, a16, a17, a18, a19, a20, a21, a22, a23, a24, a25]) (h : Q [a0, a1, a2, a3, a4, a5, a6, a7, a8, a9, a10, a11, a12, a13, a14, a15, a16, a17, a18, a19, a20, a21, a22, a23, a24, a25] H) : gName i v σ H Q := by show Q (σ.set i (some v)) H; rw [e]; exact h
/-! data taken apart -/
theorem dp_tup {K : PySem.W.Frag} {H : Hp} {x : V} {ds : List PyData} (h : Dp K H x (.tuple ds)) : ∃ p vs, x = .ref p ∧ SqT K H p vs ∧ DpAll K H vs ds := by
  cases h with
  | tup h a => exact ⟨_, _, rfl, h, a⟩
theorem dp_str {K : PySem.W.Frag} {H : Hp} {x : V} {s : Str} (h : Dp K H x (.str s)) : x = .str s := by cases h; rfl
theorem dp_int {K : PySem.W.Frag} {H : Hp} {x : V} {i : Int} (h : Dp K H x (.int i)) : x = .int i := by cases h; rfl
theorem dp_bl {K : PySem.W.Frag} {H : Hp} {x : V} {i : Bool} (h : Dp K H x (.bool i)) : x = .bl i := by cases h; rfl
theorem dpa_nil {K : PySem.W.Frag} {H : Hp} {vs : List V} (h : DpAll K H vs []) : vs = [] := by cases h; rfl
theorem dpa_cons {K : PySem.W.Frag} {H : Hp} {vs : List V} {d : PyData} {ds : List PyData} (h : DpAll K H vs (d :: ds)) : ∃ v ws, vs = v :: ws ∧ Dp K H v d ∧ DpAll K H ws ds := by
  cases h with
  | cons h a => exact ⟨_, _, rfl, h, a⟩
theorem dpa_str {K : PySem.W.Frag} {H : Hp} {vs : List V} {s : Str} {ds : List PyData} (h : DpAll K H vs (.str s :: ds)) : ∃ ws, vs = .str s :: ws ∧ DpAll K H ws ds := by
  obtain ⟨v, ws, rfl, h1, h2⟩ := dpa_cons h
  exact ⟨ws, by rw [dp_str h1], h2⟩
theorem dpa_int {K : PySem.W.Frag} {H : Hp} {vs : List V} {s : Int} {ds : List PyData} (h : DpAll K H vs (.int s :: ds)) : ∃ ws, vs = .int s :: ws ∧ DpAll K H ws ds := by
  obtain ⟨v, ws, rfl, h1, h2⟩ := dpa_cons h
  exact ⟨ws, by rw [dp_int h1], h2⟩
theorem dpa_bl {K : PySem.W.Frag} {H : Hp} {vs : List V} {s : Bool} {ds : List PyData} (h : DpAll K H vs (.bool s :: ds)) : ∃ ws, vs = .bl s :: ws ∧ DpAll K H ws ds := by
  obtain ⟨v, ws, rfl, h1, h2⟩ := dpa_cons h
  exact ⟨ws, by rw [dp_bl h1], h2⟩
theorem fm_if {α β : Type} (p : α → Bool) (g : α → β) : ∀ l : List α, l.filterMap (fun e => if p e = true then some (g e) else none) = (l.filter p).map g
  | [] => rfl
  | a :: l => by
    have ih := fm_if p g l
    cases h : p a <;> simp [h, ih]
theorem dp_t1 {K : PySem.W.Frag} {H : Hp} {x : V} {d0 : PyData} (h : Dp K H x (.tuple [d0])) : ∃ p v0, x = .ref p ∧ SqT K H p [v0] ∧ Dp K H v0 d0 := by
  obtain ⟨p, vs, rfl, ht, h0⟩ := dp_tup h
  cases h0 with | cons g0 h1 =>
  cases h1
  exact ⟨p, _, rfl, ht, g0⟩
theorem dp_t2 {K : PySem.W.Frag} {H : Hp} {x : V} {d0 d1 : PyData} (h : Dp K H x (.tuple [d0, d1])) : ∃ p v0 v1, x = .ref p ∧ SqT K H p [v0, v1] ∧ Dp K H v0 d0 ∧ Dp K H v1 d1 := by
  obtain ⟨p, vs, rfl, ht, h0⟩ := dp_tup h
  cases h0 with | cons g0 h1 =>
  cases h1 with | cons g1 h2 =>
  cases h2
  exact ⟨p, _, _, rfl, ht, g0, g1⟩
theorem dp_t3 {K : PySem.W.Frag} {H : Hp} {x : V} {d0 d1 d2 : PyData} (h : Dp K H x (.tuple [d0, d1, d2])) : ∃ p v0 v1 v2, x = .ref p ∧ SqT K H p [v0, v1, v2] ∧ Dp K H v0 d0 ∧ Dp K H v1 d1 ∧ Dp K H v2 d2 := by
  obtain ⟨p, vs, rfl, ht, h0⟩ := dp_tup h
  cases h0 with | cons g0 h1 =>
  cases h1 with | cons g1 h2 =>
  cases h2 with | cons g2 h3 =>
  cases h3
  exact ⟨p, _, _, _, rfl, ht, g0, g1, g2⟩
theorem dp_t4 {K : PySem.W.Frag} {H : Hp} {x : V} {d0 d1 d2 d3 : PyData} (h : Dp K H x (.tuple [d0, d1, d2, d3])) : ∃ p v0 v1 v2 v3, x = .ref p ∧ SqT K H p [v0, v1, v2, v3] ∧ Dp K H v0 d0 ∧ Dp K H v1 d1 ∧ Dp K H v2 d2 ∧ Dp K H v3 d3 := by
  obtain ⟨p, vs, rfl, ht, h0⟩ := dp_tup h
  cases h0 with | cons g0 h1 =>
  cases h1 with | cons g1 h2 =>
  cases h2 with | cons g2 h3 =>
  cases h3 with | cons g3 h4 =>
  cases h4
  exact ⟨p, _, _, _, _, rfl, ht, g0, g1, g2, g3⟩
theorem dp_t5 {K : PySem.W.Frag} {H : Hp} {x : V} {d0 d1 d2 d3 d4 : PyData} (h : Dp K H x (.tuple [d0, d1, d2, d3, d4])) : ∃ p v0 v1 v2 v3 v4, x = .ref p ∧ SqT K H p [v0, v1, v2, v3, v4] ∧ Dp K H v0 d0 ∧ Dp K H v1 d1 ∧ Dp K H v2 d2 ∧ Dp K H v3 d3 ∧ Dp K H v4 d4 := by
  obtain ⟨p, vs, rfl, ht, h0⟩ := dp_tup h
  cases h0 with | cons g0 h1 =>
  cases h1 with | cons g1 h2 =>
  cases h2 with | cons g2 h3 =>
  cases h3 with | cons g3 h4 =>
  cases h4 with | cons g4 h5 =>
  cases h5
  exact ⟨p, _, _, _, _, _, rfl, ht, g0, g1, g2, g3, g4⟩
theorem dp_t6 {K : PySem.W.Frag} {H : Hp} {x : V} {d0 d1 d2 d3 d4 d5 : PyData} (h : Dp K H x (.tuple [d0, d1, d2, d3, d4, d5])) : ∃ p v0 v1 v2 v3 v4 v5, x = .ref p ∧ SqT K H p [v0, v1, v2, v3, v4, v5] ∧ Dp K H v0 d0 ∧ Dp K H v1 d1 ∧ Dp K H v2 d2 ∧ Dp K H v3 d3 ∧ Dp K H v4 d4 ∧ Dp K H v5 d5 := by
  obtain ⟨p, vs, rfl, ht, h0⟩ := dp_tup h
  cases h0 with | cons g0 h1 =>
  cases h1 with | cons g1 h2 =>
  cases h2 with | cons g2 h3 =>
  cases h3 with | cons g3 h4 =>
  cases h4 with | cons g4 h5 =>
  cases h5 with | cons g5 h6 =>
  cases h6
  exact ⟨p, _, _, _, _, _, _, rfl, ht, g0, g1, g2, g3, g4, g5⟩
theorem dp_t7 {K : PySem.W.Frag} {H : Hp} {x : V} {d0 d1 d2 d3 d4 d5 d6 : PyData} (h : Dp K H x (.tuple [d0, d1, d2, d3, d4, d5, d6])) : ∃ p v0 v1 v2 v3 v4 v5 v6, x = .ref p ∧ SqT K H p [v0, v1, v2, v3, v4, v5, v6] ∧ Dp K H v0 d0 ∧ Dp K H v1 d1 ∧ Dp K H v2 d2 ∧ Dp K H v3 d3 ∧ Dp K H v4 d4 ∧ Dp K H v5 d5 ∧ Dp K H v6 d6 := by
  obtain ⟨p, vs, rfl, ht, h0⟩ := dp_tup h
  cases h0 with | cons g0 h1 =>
  cases h1 with | cons g1 h2 =>
  cases h2 with | cons g2 h3 =>
  cases h3 with | cons g3 h4 =>
  cases h4 with | cons g4 h5 =>
  cases h5 with | cons g5 h6 =>
  cases h6 with | cons g6 h7 =>
  cases h7
  exact ⟨p, _, _, _, _, _, _, _, rfl, ht, g0, g1, g2, g3, g4, g5, g6⟩
theorem dp_t8 {K : PySem.W.Frag} {H : Hp} {x : V} {d0 d1 d2 d3 d4 d5 d6 d7 : PyData} (h : Dp K H x (.tuple [d0, d1, d2, d3, d4, d5, d6, d7])) : ∃ p v0 v1 v2 v3 v4 v5 v6 v7, x = .ref p ∧ SqT K H p [v0, v1, v2, v3, v4, v5, v6, v7] ∧ Dp K H v0 d0 ∧ Dp K H v1 d1 ∧ Dp K H v2 d2 ∧ Dp K H v3 d3 ∧ Dp K H v4 d4 ∧ Dp K H v5 d5 ∧ Dp K H v6 d6 ∧ Dp K H v7 d7 := by
  obtain ⟨p, vs, rfl, ht, h0⟩ := dp_tup h
  cases h0 with | cons g0 h1 =>
  cases h1 with | cons g1 h2 =>
  cases h2 with | cons g2 h3 =>
  cases h3 with | cons g3 h4 =>
  cases h4 with | cons g4 h5 =>
  cases h5 with | cons g5 h6 =>
  cases h6 with | cons g6 h7 =>
  cases h7 with | cons g7 h8 =>
  cases h8
  exact ⟨p, _, _, _, _, _, _, _, _, rfl, ht, g0, g1, g2, g3, g4, g5, g6, g7⟩
theorem dp_t9 {K : PySem.W.Frag} {H : Hp} {x : V} {d0 d1 d2 d3 d4 d5 d6 d7 d8 : PyData} (h : Dp K H x (.tuple [d0, d1, d2, d3, d4, d5, d6, d7, d8])) : ∃ p v0 v1 v2 v3 v4 v5 v6 v7 v8, x = .ref p ∧ SqT K H p [v0, v1, v2, v3, v4, v5, v6, v7, v8] ∧ Dp K H v0 d0 ∧ Dp K H v1 d1 ∧ Dp K H v2 d2 ∧ Dp K H v3 d3 ∧ Dp K H v4 d4 ∧ Dp K H v5 d5 ∧ Dp K H v6 d6 ∧ Dp K H v7 d7 ∧ Dp K H v8 d8 := by
  obtain ⟨p, vs, rfl, ht, h0⟩ := dp_tup h
  cases h0 with | cons g0 h1 =>
  cases h1 with | cons g1 h2 =>
  cases h2 with | cons g2 h3 =>
  cases h3 with | cons g3 h4 =>
  cases h4 with | cons g4 h5 =>
  cases h5 with | cons g5 h6 =>
  cases h6 with | cons g6 h7 =>
  cases h7 with | cons g7 h8 =>
  cases h8 with | cons g8 h9 =>
  cases h9
  exact ⟨p, _, _, _, _, _, _, _, _, _, rfl, ht, g0, g1, g2, g3, g4, g5, g6, g7, g8⟩
theorem tf_no {α : Type} {l : List α} {i : Nat} {x : α} {f : α → Bool} (h : l[i]? = some x) (hf : f x = false) : (l.take (i + 1)).filter f = (l.take i).filter f := by
  rw [take_filter f h, hf]
  simp
theorem tf_yes {α : Type} {l : List α} {i : Nat} {x : α} {f : α → Bool} (h : l[i]? = some x) (hf : f x = true) : ((l.take (i + 1)).filter f).length = ((l.take i).filter f).length + 1 := by
  rw [take_filter f h, hf]
  simp
/-! the digits of a script's cell -/
def Digs : List Int → List Int → Prop
  | [], [] => True
  | d :: ds, z :: zs => (0 ≤ d ∧ d < z) ∧ Digs ds zs
  | _, _ => False
theorem digs_snoc : ∀ {ds zs : List Int} {d z : Int}, Digs ds zs → 0 ≤ d → d < z → Digs (ds ++ [d]) (zs ++ [z])
  | [], [], _, _, _, h0, h1 => ⟨⟨h0, h1⟩, trivial⟩
  | _ :: _, _ :: _, _, _, h, h0, h1 => ⟨h.1, digs_snoc h.2 h0 h1⟩
theorem digs_len : ∀ {ds zs : List Int}, Digs ds zs → ds.length = zs.length
  | [], [], _ => rfl
  | _ :: ds, _ :: zs, h => by rw [List.length_cons, List.length_cons, digs_len h.2]
theorem digs1 {ds : List Int} {z : Int} (h : Digs ds [z]) : ∃ d, ds = [d] ∧ 0 ≤ d ∧ d < z := by
  match ds, h with
  | [d], h => exact ⟨d, rfl, h.1.1, h.1.2⟩
  | _ :: _ :: _, h => exact h.2.elim
theorem digs2 {ds : List Int} {z y : Int} (h : Digs ds [z, y]) : ∃ d e, ds = [d, e] ∧ (0 ≤ d ∧ d < z) ∧ (0 ≤ e ∧ e < y) := by
  match ds, h with
  | d :: es, h => obtain ⟨e, rfl, h1⟩ := digs1 h.2; exact ⟨d, e, rfl, h.1, h1⟩
theorem digs3 {ds : List Int} {z y x : Int} (h : Digs ds [z, y, x]) : ∃ d e f, ds = [d, e, f] ∧ (0 ≤ d ∧ d < z) ∧ (0 ≤ e ∧ e < y) ∧ (0 ≤ f ∧ f < x) := by
  match ds, h with
  | d :: es, h => obtain ⟨e, f, rfl, h1⟩ := digs2 h.2; exact ⟨d, e, f, rfl, h.1, h1⟩
theorem digs4 {ds : List Int} {z y x w : Int} (h : Digs ds [z, y, x, w]) : ∃ d e f g, ds = [d, e, f, g] ∧ (0 ≤ d ∧ d < z) ∧ (0 ≤ e ∧ e < y) ∧ (0 ≤ f ∧ f < x) ∧ (0 ≤ g ∧ g < w) := by
  match ds, h with
  | d :: es, h => obtain ⟨e, f, g, rfl, h1⟩ := digs3 h.2; exact ⟨d, e, f, g, rfl, h.1, h1⟩
theorem digs5 {ds : List Int} {z y x w v : Int} (h : Digs ds [z, y, x, w, v]) : ∃ d e f g k, ds = [d, e, f, g, k] ∧ (0 ≤ d ∧ d < z) ∧ (0 ≤ e ∧ e < y) ∧ (0 ≤ f ∧ f < x) ∧ (0 ≤ g ∧ g < w) ∧ (0 ≤ k ∧ k < v) := by
  match ds, h with
  | d :: es, h => obtain ⟨e, f, g, k, rfl, h1⟩ := digs4 h.2; exact ⟨d, e, f, g, k, rfl, h.1, h1⟩
theorem digs6 {ds : List Int} {z y x w v u : Int} (h : Digs ds [z, y, x, w, v, u]) : ∃ d e f g k l, ds = [d, e, f, g, k, l] ∧ (0 ≤ d ∧ d < z) ∧ (0 ≤ e ∧ e < y) ∧ (0 ≤ f ∧ f < x) ∧ (0 ≤ g ∧ g < w) ∧ (0 ≤ k ∧ k < v) ∧ (0 ≤ l ∧ l < u) := by
  match ds, h with
  | d :: es, h => obtain ⟨e, f, g, k, l, rfl, h1⟩ := digs5 h.2; exact ⟨d, e, f, g, k, l, rfl, h.1, h1⟩
theorem digs8 {ds : List Int} {z y x w v u t s : Int} (h : Digs ds [z, y, x, w, v, u, t, s]) : ∃ d e f g k l m n, ds = [d, e, f, g, k, l, m, n] ∧ (0 ≤ d ∧ d < z) ∧ (0 ≤ e ∧ e < y) ∧ (0 ≤ f ∧ f < x) ∧ (0 ≤ g ∧ g < w) ∧ (0 ≤ k ∧ k < v) ∧ (0 ≤ l ∧ l < u) ∧ (0 ≤ m ∧ m < t) ∧ (0 ≤ n ∧ n < s) := by
  match ds, h with
  | d :: e :: es, h => obtain ⟨f, g, k, l, m, n, rfl, h1⟩ := digs6 h.2.2; exact ⟨d, e, f, g, k, l, m, n, rfl, h.1, h.2.1, h1⟩
def sp_num (K : PySem.W.Frag) : Sp := fun vs H Q _ => ∃ (a : Addr) (ns : List Int) (k : Int), vs = [.ref a, .int k] ∧ SqL K H a (ns.map V.int) ∧ (0 ≤ k ∧ k ≤ 10000) ∧ ∀ n : Int, 0 ≤ n → Q (.int n) H
def sp_digits (K : PySem.W.Frag) : Sp := fun vs H Q _ => ∃ (a b : Addr) (ns zs : List Int) (k : Int), vs = [.ref a, .int k, .ref b] ∧ SqL K H a (ns.map V.int) ∧ (0 ≤ k ∧ k ≤ 10000) ∧ SqL K H b (zs.map V.int) ∧ zs.length ≤ 1000 ∧ (∀ z ∈ zs, 0 < z ∧ z < 1073741824) ∧
  ∀ (p : Addr) (H' : Hp) (ds : List Int), H p = none → Same H H' → H' p = some (.lst (ds.map V.int)) → Digs ds zs → Q (.ref p) H'
section
variable {P : Program} {w : World} {K : PySem.W.Frag} {mg : Str → Option Value} {base : Heap}
theorem ok__law_number (T : TX K mg) : FnOk P w K mg base CX0 1 T.a__law_number T.d__law_number ["script", "k"] (sp_num K) := by
  refine T.F__law_number.ok sc__law_number (fun vs H Q E h => ?_) (fun cdv A outer s H vs Q E hr h => ?_)
  · obtain ⟨a, ns, k, rfl, _⟩ := h
    rfl
  · obtain ⟨a, ns, k, rfl, hS, hk, q⟩ := h
    refine ⟨_, (pss_cons (ps_set (i := 2) sc__law_number.nd rfl (Or.inl rfl) (pv 1))
      (C8.pss_cut (ps_if (pt_cmpR op_lt (pv 1) (pe_callB call_len_seq (by rfl) T.n_len PySem.boot_len (pa_cons (pv 0) pa_nil)) (nomark _)) (pss_one (ps_set (i := 2) sc__law_number.nd rfl (Or.inl rfl) (pe_ix ix_list (pv 0) (pv 1) (fun _ _ => rfl)))) pss_nil)
      (pss_cons (ps_if (PW.pt (pw_or (pt_cmpR op_ge (pv 2) (pe_op op_pow pe_int pe_int) (nomark _)) (pw_or1 (pt_cmpR op_lt (pv 2) pe_int (nomark _))))) (pss_one (ps_ret (pe_callB call_abs (by rfl) T.n_abs (by decide +kernel) (pa_cons (pv 2) pa_nil)))) pss_nil)
      (pss_one (ps_ret (pe_op op_mod (pe_callTy call_int1 (by rfl) T.n_int (by decide +kernel) (pa_cons (pe_op op_mul (pe_op op_mod (pe_callTy call_int1 (by rfl) T.n_int (by decide +kernel) (pa_cons (pe_op op_mul (pe_op op_add (pe_op op_add (pv 2) (pe_op op_mul pe_int (pv 1))) pe_int) pe_int) pa_nil)) pe_int) pe_int) pa_nil)) pe_int)))))), ?_⟩
    refine ⟨_, rfl, fun σ' G => H = G ∧ ∃ c : Int, σ' = [some (.ref a), some (.int k), some (.int c)], ?_, ?_⟩
    · refine ⟨.int k, rfl, .ref a, rfl, a, _, rfl, .inl hS, _, _, rfl, rfl, _, rfl, ifd (fun hc => ?_) (fun hc => ?_)⟩
      · rw [List.length_map] at hc
        obtain ⟨m, rfl⟩ := Int.eq_ofNat_of_zero_le hk.1
        have hg : ns[m]? = some ns[m] := List.getElem?_eq_getElem (by omega)
        exact ⟨_, rfl, _, rfl, a, _, _, _, rfl, rfl, hS, at_map hg, rfl, _, rfl⟩
      · exact ⟨rfl, _, rfl⟩
    rintro σ' _ ⟨rfl, c, rfl⟩
    refine ⟨_, rfl, _, _, rfl, rfl, ⟨by decide, by decide, by decide⟩, _, _, rfl, rfl, _, rfl, ifd (fun hb => ?_) (fun hb => ?_)⟩
    · refine ⟨_, rfl, _, rfl, q _ ?_⟩
      split <;> omega
    · refine ⟨_, rfl, _, _, rfl, rfl, _, rfl, ifd (fun hb2 => ?_) (fun hb2 => ?_)⟩
      · refine ⟨_, rfl, _, rfl, q _ ?_⟩
        split <;> omega
      · refine ⟨_, rfl, _, rfl, _, _, rfl, rfl, .inl ⟨by decide, by decide⟩, _, _, rfl, rfl, _, _, rfl, rfl, _, _, rfl, rfl, .inr ⟨by decide, by decide⟩, .inl ⟨_, rfl, _, _, rfl, rfl, (by show (0 : Int) < _; decide), _, _, rfl, rfl, .inr ⟨by decide, by decide⟩, .inl ⟨_, rfl, _, _, rfl, rfl, (by show (0 : Int) < _; decide), q _ (Int.emod_nonneg _ (by decide))⟩⟩⟩
theorem ok__law_digits (T : TX K mg) : FnOk P w K mg base CX0 2 T.a__law_digits T.d__law_digits ["script", "k", "sizes"] (sp_digits K) := by
  refine T.F__law_digits.ok sc__law_digits (fun vs H Q E h => ?_) (fun cdv A outer s H vs Q E hr h => ?_)
  · obtain ⟨a, b, ns, zs, k, rfl, _⟩ := h
    rfl
  · obtain ⟨a, b, ns, zs, k, rfl, hS, hk, hB, hzl, hz, q⟩ := h
    refine ⟨_, (pss_cons (ps_set (i := 3) sc__law_digits.nd rfl (Or.inl rfl) (pe_call (ok__law_number T) (hr.mono (by decide)) (by rfl) T.g__law_number T.F__law_number.kp T.b__law_number .nil pass0 (pa_cons (pv 0) (pa_cons (pv 1) pa_nil))))
      (pss_cons (ps_set (i := 4) sc__law_digits.nd rfl (Or.inl rfl) (pe_lst pa_nil))
      (pss_cons (ps_for PassesOwn.never rfl (pi_list (pv 2)) (pg_name (i := 5) sc__law_digits.nd rfl (Or.inl rfl))
        (pss_cons (ps_expr (pe_bm PySem.F.plainAttrs_list PySem.F.slot_list_append PySem.F.type_list_append mt_append (pv 4) (pa_cons (pe_op op_mod (pe_callTy call_int1 (by rfl) T.n_int (by decide +kernel) (pa_cons (pv 3) pa_nil)) (pv 5)) pa_nil)))
        (pss_one (ps_set (i := 3) sc__law_digits.nd rfl (Or.inl rfl) (pe_op op_fdiv (pe_callTy call_int1 (by rfl) T.n_int (by decide +kernel) (pa_cons (pv 3) pa_nil)) (pv 5))))))
      (pss_one (ps_ret (pv 4)))))), ?_⟩
    refine ⟨_, rfl, _, rfl, a, ns, k, rfl, hS, hk, fun n hn => ?_⟩
    refine ⟨Nat.zero_le _, fun o ho => ?_⟩
    have s1 := same_upd (o := .lst []) ho
    refine ⟨_, rfl, b, rfl, ⟨_, s1.seq hB⟩, for_list (K := K) (a := b) (xs := zs.map V.int) (fun i σ H2 => ∃ (n : Int) (ds : List Int) (x5 : Option V), 0 ≤ n ∧ σ = [some (.ref a), some (.int k), some (.ref b), some (.int n), some (.ref o), x5] ∧ Same H H2 ∧ H2 o = some (.lst (ds.map V.int)) ∧ Digs ds (zs.take i))
      ⟨n, [], none, hn, rfl, s1, upd_same, trivial⟩ (fun i σ H2 _ ⟨_, _, _, _, _, h, _⟩ => h.seq hB) ?_ ?_⟩
    · rintro i x σ H2 hx ⟨n, ds, x5, hn, rfl, g1, g2, g3⟩
      obtain ⟨z, hzi, rfl⟩ := map_at hx
      have z0 := hz z (List.mem_of_getElem? hzi)
      have hl := digs_len g3
      rw [List.length_take] at hl
      refine ⟨_, rfl, .inl ⟨rfl, _, sql g2⟩, _, rfl, .inl ⟨_, rfl, _, rfl, _, _, rfl, rfl, z0.1, o, _, _, rfl, rfl, g2, szl (by rw [List.length_map]; omega), ?_⟩⟩
      refine ⟨_, rfl, .inl ⟨_, rfl, _, rfl, _, _, rfl, rfl, z0, ?_⟩⟩
      refine ⟨n / z, ds ++ [n % z], _, Int.ediv_nonneg hn (by omega), rfl, same_put g1 ho, ?_, ?_⟩
      · rw [upd_same, List.map_append]
        rfl
      · rw [take_more hzi]
        exact digs_snoc g3 (Int.emod_nonneg _ (by omega)) (Int.emod_lt_of_pos _ z0.1)
    · rintro σ H2 ⟨n, ds, x5, hn, rfl, g1, g2, g3⟩
      rw [List.length_map, List.take_length] at g3
      exact ⟨_, rfl, q o _ ds ho g1 g2 g3⟩
end
/-! texts of numbers, items of written lists -/
theorem slen_app (a b : Str) : (a ++ b).length = a.length + b.length := by
  show (a.cps ++ b.cps).size = a.cps.size + b.cps.size
  rw [Array.size_append]
theorem strN_len : ∀ n : Nat, n < 1101 → (Str.ofString (toString (n : Int))).length ≤ 8 := by decide +kernel
theorem strN_log : ∀ n : Nat, n < 1101 → ((n : Int).natAbs).log2 < 1920 := by decide +kernel
theorem strI {i : Int} (h : 0 ≤ i ∧ i ≤ 1100) : i.natAbs.log2 < 1920 ∧ (Str.ofString (toString i)).length ≤ 8 := by
  obtain ⟨n, rfl⟩ := Int.eq_ofNat_of_zero_le h.1
  exact ⟨strN_log n (by omega), strN_len n (by omega)⟩
theorem at_strs {zs : List Str} {i : Int} (h0 : 0 ≤ i) (h1 : i < zs.length) : ∃ z, z ∈ zs ∧ atI (zs.map V.str) i = some (.str z) := by
  obtain ⟨n, rfl⟩ := Int.eq_ofNat_of_zero_le h0
  have hn : n < zs.length := by omega
  exact ⟨zs[n], List.getElem_mem hn, at_map (List.getElem?_eq_getElem hn)⟩
theorem inV_str (k : Str) : ∀ zs : List Str, inV (.str k) (zs.map V.str) = decide (k ∈ zs)
  | [] => rfl
  | z :: zs => by
    have ih := inV_str k zs
    unfold inV at ih ⊢
    rw [List.map_cons, List.any_cons, ih]
    show ((z == k) || decide (k ∈ zs)) = decide (k ∈ z :: zs)
    by_cases e : k = z
    · subst e
      rw [beq_self_eq_true, Bool.true_or, decide_eq_true List.mem_cons_self]
    · rw [beq_eq_false_iff_ne.mpr (Ne.symm e), Bool.false_or, Bool.eq_iff_iff, decide_eq_true_iff, decide_eq_true_iff, List.mem_cons]
      exact ⟨.inr, fun h => h.resolve_left e⟩
theorem flat_strs : ∀ zs : List Str, (zs.map V.str).all flatV = true
  | [] => rfl
  | _ :: zs => flat_strs zs
/-! room on a node -/
structure Nd where
  size : Int
  used : Int
  life : Int
  lost : Int
  zone : Str
def Nd.d (n : Nd) : PyData := .tuple [.int n.size, .int n.used, .int n.life, .int n.lost, .str n.zone]
def tkD (born need : Int) (z : Str) : PyData := .tuple [.int born, .str "run", .int need, .str "new", .int 0, .str "", .int 0, .str z]
def Nd.free (n : Nd) (as : Int) : Int := n.size - n.used - as
def openB (n : Nd) : Bool := decide (V.int n.lost = V.int 0) && decide (1 ≤ n.life)
def zoneB (z : Str) (n : Nd) : Bool := inV (.str z) [.str "", .str n.zone]
def fitsB (need : Int) (z : Str) (n : Nd) (dr : Bool) (as : Int) : Bool := !dr && openB n && zoneB z n && decide (need ≤ n.free as)
def sp_free (K : PySem.W.Frag) : Sp := fun vs H Q _ => ∃ (v : V) (n : Nd) (as : Int), vs = [v, .int as] ∧ Dp K H v n.d ∧ Q (.int (n.free as)) H
def sp_open (K : PySem.W.Frag) : Sp := fun vs H Q _ => ∃ (v : V) (n : Nd), vs = [v] ∧ Dp K H v n.d ∧ ∀ b, b = openB n → Q (.bl b) H
def sp_fits (K : PySem.W.Frag) : Sp := fun vs H Q _ => ∃ (t v : V) (n : Nd) (born need : Int) (z : Str) (dr : Bool) (as : Int), vs = [t, v, .bl dr, .int as] ∧ Dp K H t (tkD born need z) ∧ Dp K H v n.d ∧ ∀ b H', b = fitsB need z n dr as → Same H H' → Q (.bl b) H'
def sp_zone : Sp := fun vs H Q _ => ∃ (i : Int), vs = [.int i] ∧ (0 ≤ i ∧ i < 3) ∧ ∀ z H', z ∈ ([Str.ofString "", Str.ofString "a", Str.ofString "b"] : List Str) → Same H H' → Q (.str z) H'
section
variable {P : Program} {w : World} {K : PySem.W.Frag} {mg : Str → Option Value} {base : Heap}
theorem ok_free_size (T : TX K mg) : FnOk P w K mg base CX0 1 T.a_free_size T.d_free_size ["node_value", "assumed"] (sp_free K) := by
  refine T.F_free_size.ok sc_free_size (fun vs H Q E h => ?_) (fun cdv A outer s H vs Q E hr h => ?_)
  · obtain ⟨v, n, as, rfl, _⟩ := h
    rfl
  · obtain ⟨v, n, as, rfl, hv, q⟩ := h
    refine ⟨_, (pss_cons (ps_asg (pv 0) (pg_tup (by rfl) (pgs_cons (pg_name (i := 2) sc_free_size.nd rfl (Or.inl rfl)) (pgs_cons (pg_name (i := 3) sc_free_size.nd rfl (Or.inl rfl)) (pgs_cons (pg_name (i := 4) sc_free_size.nd rfl (Or.inl rfl)) (pgs_cons (pg_name (i := 4) sc_free_size.nd rfl (Or.inl rfl)) (pgs_cons (pg_name (i := 4) sc_free_size.nd rfl (Or.inl rfl)) pgs_nil)))))))
      (pss_one (ps_ret (pe_op op_sub (pe_op op_sub (pv 2) (pv 3)) (pv 1))))), ?_⟩
    obtain ⟨p, v0, v1, v2, v3, v4, rfl, ht, ⟨⟩, ⟨⟩, ⟨⟩, ⟨⟩, ⟨⟩⟩ := dp_t5 hv
    refine ⟨_, rfl, p, _, rfl, ht, rfl, _, _, rfl, _, _, rfl, _, _, rfl, _, _, rfl, _, _, rfl, rfl, ?_⟩
    exact ⟨_, rfl, _, rfl, _, _, rfl, rfl, _, rfl, _, _, rfl, rfl, q⟩
theorem ok_is_open (T : TX K mg) : FnOk P w K mg base CX0 1 T.a_is_open T.d_is_open ["node_value"] (sp_open K) := by
  refine T.F_is_open.ok sc_is_open (fun vs H Q E h => ?_) (fun cdv A outer s H vs Q E hr h => ?_)
  · obtain ⟨v, n, rfl, _⟩ := h
    rfl
  · obtain ⟨v, n, rfl, hv, q⟩ := h
    refine ⟨_, (pss_cons (ps_asg (pv 0) (pg_tup (by rfl) (pgs_cons (pg_name (i := 1) sc_is_open.nd rfl (Or.inl rfl)) (pgs_cons (pg_name (i := 1) sc_is_open.nd rfl (Or.inl rfl)) (pgs_cons (pg_name (i := 2) sc_is_open.nd rfl (Or.inl rfl)) (pgs_cons (pg_name (i := 3) sc_is_open.nd rfl (Or.inl rfl)) (pgs_cons (pg_name (i := 1) sc_is_open.nd rfl (Or.inl rfl)) pgs_nil)))))))
      (pss_one (ps_ret (pe_and (pe_cmpR op_eq (pv 3) pe_int (nomark _)) (pe_one (pe_cmpR op_ge (pv 2) pe_int (nomark _))))))), ?_⟩
    obtain ⟨p, v0, v1, v2, v3, v4, rfl, ht, ⟨⟩, ⟨⟩, ⟨⟩, ⟨⟩, ⟨⟩⟩ := dp_t5 hv
    refine ⟨_, rfl, p, _, rfl, ht, rfl, _, _, rfl, _, _, rfl, _, _, rfl, _, _, rfl, _, _, rfl, rfl, ?_⟩
    refine ⟨_, rfl, rfl, _, rfl, ifd (fun h => ?_) (fun h => ?_)⟩
    · exact ⟨_, rfl, _, _, rfl, rfl, q _ (by simp [openB, h])⟩
    · exact q _ (by simp [openB, h])
theorem ok_fits (T : TX K mg) : FnOk P w K mg base CX0 2 T.a_fits T.d_fits ["task_value", "node_value", "drained", "assumed"] (sp_fits K) := by
  refine T.F_fits.ok sc_fits (fun vs H Q E h => ?_) (fun cdv A outer s H vs Q E hr h => ?_)
  · obtain ⟨t, v, n, born, need, z, dr, as, rfl, _⟩ := h
    rfl
  · obtain ⟨t, v, n, born, need, z, dr, as, rfl, ht, hv, q⟩ := h
    refine ⟨_, (pss_cons (ps_asg (pv 1) (pg_tup (by rfl) (pgs_cons (pg_name (i := 4) sc_fits.nd rfl (Or.inl rfl)) (pgs_cons (pg_name (i := 4) sc_fits.nd rfl (Or.inl rfl)) (pgs_cons (pg_name (i := 4) sc_fits.nd rfl (Or.inl rfl)) (pgs_cons (pg_name (i := 4) sc_fits.nd rfl (Or.inl rfl)) (pgs_cons (pg_name (i := 5) sc_fits.nd rfl (Or.inl rfl)) pgs_nil)))))))
      (pss_cons (ps_if (PW.pt (pw_or (pt_val (pv 2)) (pw_or (pt_not (pt_val (pe_call (ok_is_open T) (hr.mono (by decide)) (by rfl) T.g_is_open T.F_is_open.kp T.b_is_open .nil pass0 (pa_cons (pv 1) pa_nil)))) (pw_or1 (pt_cmpR op_notIn_seq (pe_ix ix_tup (pv 0) (pe_glob (v := .int 7) (by rfl) T.c_ZONE ⟨_, rfl⟩) (fun _ _ => rfl)) (pe_tup (pa_cons pe_str (pa_cons (pv 5) pa_nil))) rfl))))) (pss_one (ps_ret pe_bl)) pss_nil)
      (pss_one (ps_ret (pe_cmpR op_le (pe_ix ix_tup (pv 0) (pe_glob (v := .int 2) (by rfl) T.c_SIZE ⟨_, rfl⟩) (fun _ _ => rfl)) (pe_call (ok_free_size T) (hr.mono (by decide)) (by rfl) T.g_free_size T.F_free_size.kp T.b_free_size .nil pass0 (pa_cons (pv 1) (pa_cons (pv 3) pa_nil))) (nomark _)))))), ?_⟩
    obtain ⟨p, v0, v1, v2, v3, v4, rfl, hp, ⟨⟩, ⟨⟩, ⟨⟩, ⟨⟩, ⟨⟩⟩ := dp_t5 hv
    obtain ⟨p2, v0, v1, v2, v3, v4, v5, v6, v7, rfl, hp2, ⟨⟩, ⟨⟩, ⟨⟩, ⟨⟩, ⟨⟩, ⟨⟩, ⟨⟩, ⟨⟩⟩ := dp_t8 ht
    refine ⟨_, rfl, p, _, rfl, hp, rfl, _, _, rfl, _, _, rfl, _, _, rfl, _, _, rfl, _, _, rfl, rfl, ?_⟩
    refine ⟨_, rfl, _, rfl, ifb2 (fun h1 => ?_) (fun h1 => ?_)⟩
    · exact q _ _ (by simp [fitsB, h1]) (Same.refl _)
    · refine ⟨_, rfl, _, n, rfl, hv, fun b hb => ⟨_, rfl, ?_⟩⟩
      refine ifb2 (fun h2 => ?_) (fun h2 => ?_)
      · refine q _ _ ?_ (Same.refl _)
        rw [hb] at h2
        simp only [Bool.not_eq_true'] at h2
        simp [fitsB, h2]
      · rw [hb] at h2
        simp only [Bool.not_eq_false'] at h2
        refine ⟨_, rfl, p2, _, 7, _, rfl, rfl, hp2, atI_nat (j := 7) rfl, _, rfl, (by show 2 ≤ sizeLine; decide), fun u hu => ?_⟩
        have s1 := same_upd (o := .tup [.str "", .str n.zone]) hu
        refine ⟨u, _, rfl, .inr (sqt upd_same), rfl, rfl, _, rfl, ?_⟩
        refine ifb2 (fun h3 => ?_) (fun h3 => ?_)
        · refine q _ _ ?_ s1
          have h3' : zoneB z n = false := by unfold zoneB; simpa using h3
          simp [fitsB, h3']
        · have h3' : zoneB z n = true := by unfold zoneB; simpa using h3
          refine ⟨_, rfl, p2, _, 2, _, rfl, rfl, sqt_same s1 hp2, atI_nat (j := 2) rfl, _, rfl, _, rfl, _, n, as, rfl, dp_same s1 _ hv, _, _, rfl, rfl, q _ _ ?_ s1⟩
          simp [fitsB, h1, h2, h3']
theorem ok__law_zone (T : TX K mg) : FnOk P w K mg base CX0 1 T.a__law_zone T.d__law_zone ["digit"] sp_zone := by
  refine T.F__law_zone.ok sc__law_zone (fun vs H Q E h => ?_) (fun cdv A outer s H vs Q E hr h => ?_)
  · obtain ⟨i, rfl, _⟩ := h
    rfl
  · obtain ⟨i, rfl, hi, q⟩ := h
    refine ⟨_, (pss_cons (ps_set (i := 1) sc__law_zone.nd rfl (Or.inl rfl) (pe_lst (pa_cons pe_str (pa_cons pe_str (pa_cons pe_str pa_nil)))))
      (pss_one (ps_ret (pe_ix ix_list (pv 1) (pv 0) (fun _ _ => rfl))))), ?_⟩
    refine ⟨(by show 3 ≤ sizeLine; decide), fun p hp => ?_⟩
    obtain ⟨z, hz, e⟩ := at_strs (zs := ["", "a", "b"]) (i := i) hi.1 (by show i < 3; omega)
    exact ⟨_, rfl, _, rfl, p, _, i, .str z, rfl, rfl, sql upd_same, e, q z _ hz (same_upd hp)⟩
end
def dueB (need : Int) (z : Str) (n : Nd) (dr : Bool) (as : Int) : Bool := decide (V.int n.lost = V.int 0) && !decide (n.life < 1) && !dr && (decide (V.str z = V.str "") || decide (V.str z = V.str n.zone)) && decide (need + n.used + as ≤ n.size)
theorem due_fits (need : Int) (z : Str) (n : Nd) (dr : Bool) (as : Int) : dueB need z n dr as = fitsB need z n dr as := by
  have e1 : zoneB z n = (decide (V.str z = V.str "") || decide (V.str z = V.str n.zone)) := by
    show inV (.str z) ([Str.ofString "", n.zone].map V.str) = _
    rw [inV_str, Bool.eq_iff_iff]
    simp
  have e2 : decide (need + n.used + as ≤ n.size) = decide (need ≤ n.free as) := by
    rw [Bool.eq_iff_iff]
    rw [decide_eq_true_iff, decide_eq_true_iff]
    show _ ↔ need ≤ n.size - n.used - as
    constructor <;> intro h <;> omega
  have e3 : (!decide (n.life < 1)) = decide (1 ≤ n.life) := by
    rw [Bool.eq_iff_iff]
    simp
  unfold dueB fitsB openB
  rw [e1, e2, e3]
  cases dr <;> cases decide (V.int n.lost = V.int 0) <;> cases decide (1 ≤ n.life) <;> rfl
def sp_due (K : PySem.W.Frag) : Sp := fun vs H Q _ => ∃ (t v : V) (n : Nd) (born need : Int) (z : Str) (dr : Bool) (as : Int), vs = [v, t, .bl dr, .int as] ∧ Dp K H t (tkD born need z) ∧ Dp K H v n.d ∧ ∀ b, b = dueB need z n dr as → Q (.bl b) H
def sp_bool : Sp := fun vs H Q _ => ∃ (b c : Bool), vs = [.bl b, .bl c] ∧ b = c ∧ Q (.bl true) H
def sp_agrees (K : PySem.W.Frag) : Sp := fun vs H Q _ => ∃ (t v : V) (n : Nd) (born need : Int) (z : Str) (dr : Bool) (as : Int), vs = [v, t, .bl dr, .int as] ∧ Dp K H t (tkD born need z) ∧ Dp K H v n.d ∧ ∀ H', Same H H' → Q (.bl true) H'
def sp_law (K : PySem.W.Frag) : Sp := fun vs H Q _ => ∃ (a : Addr) (ns : List Int), vs = [.ref a] ∧ SqL K H a (ns.map V.int) ∧ ns.length ≤ 63 ∧ ∀ H', Q (.bl true) H'
section
variable {P : Program} {w : World} {K : PySem.W.Frag} {mg : Str → Option Value} {base : Heap}
theorem ok__law_bool (T : TX K mg) : FnOk P w K mg base CX0 1 T.a__law_bool T.d__law_bool ["actual", "due"] sp_bool := by
  refine T.F__law_bool.ok sc__law_bool (fun vs H Q E h => ?_) (fun cdv A outer s H vs Q E hr h => ?_)
  · obtain ⟨b, c, rfl, _⟩ := h
    rfl
  · obtain ⟨b, c, rfl, rfl, q⟩ := h
    refine ⟨_, (pss_one (ps_ret (pe_and (pe_or (pe_cmpR op_is_bl (pv 0) pe_bl (nomark _)) (pe_one (pe_cmpR op_is_bl (pv 0) pe_bl (nomark _)))) (pe_one (pe_cmpR op_eq (pv 0) (pv 1) (nomark _)))))), ?_⟩
    cases b with
    | true => exact ⟨_, rfl, _, _, rfl, rfl, _, rfl, ifbt rfl ⟨_, rfl, ifbt rfl ⟨_, rfl, _, rfl, rfl, q⟩⟩⟩
    | false => exact ⟨_, rfl, _, _, rfl, rfl, _, rfl, ifbf rfl ⟨_, rfl, _, _, rfl, rfl, _, rfl, ifbt rfl ⟨_, rfl, _, rfl, rfl, q⟩⟩⟩
theorem ok__law_due (T : TX K mg) : FnOk P w K mg base CX0 1 T.a__law_due T.d__law_due ["node", "task", "drained", "assumed"] (sp_due K) := by
  refine T.F__law_due.ok sc__law_due (fun vs H Q E h => ?_) (fun cdv A outer s H vs Q E hr h => ?_)
  · obtain ⟨t, v, n, born, need, z, dr, as, rfl, _⟩ := h
    rfl
  · obtain ⟨t, v, n, born, need, z, dr, as, rfl, ht, hv, q⟩ := h
    refine ⟨_, (pss_cons (ps_if (PW.pt (pw_or (pt_cmpR op_ne (pe_ix ix_tup (pv 0) pe_int (fun _ _ => rfl)) pe_int (nomark _)) (pw_or (pt_cmpR op_lt (pe_ix ix_tup (pv 0) pe_int (fun _ _ => rfl)) pe_int (nomark _)) (pw_or1 (pt_val (pv 2)))))) (pss_one (ps_ret pe_bl)) pss_nil)
      (pss_cons (ps_if (PW.pt (pw_and (pt_cmpR op_ne (pe_ix ix_tup (pv 1) pe_int (fun _ _ => rfl)) pe_str (nomark _)) (pw_and1 (pt_cmpR op_ne (pe_ix ix_tup (pv 1) pe_int (fun _ _ => rfl)) (pe_ix ix_tup (pv 0) pe_int (fun _ _ => rfl)) (nomark _))))) (pss_one (ps_ret pe_bl)) pss_nil)
      (pss_one (ps_ret (pe_cmpR op_le (pe_op op_add (pe_op op_add (pe_ix ix_tup (pv 1) pe_int (fun _ _ => rfl)) (pe_ix ix_tup (pv 0) pe_int (fun _ _ => rfl))) (pv 3)) (pe_ix ix_tup (pv 0) pe_int (fun _ _ => rfl)) (nomark _)))))), ?_⟩
    obtain ⟨p, v0, v1, v2, v3, v4, rfl, hp, ⟨⟩, ⟨⟩, ⟨⟩, ⟨⟩, ⟨⟩⟩ := dp_t5 hv
    obtain ⟨p2, v0, v1, v2, v3, v4, v5, v6, v7, rfl, hp2, ⟨⟩, ⟨⟩, ⟨⟩, ⟨⟩, ⟨⟩, ⟨⟩, ⟨⟩, ⟨⟩⟩ := dp_t8 ht
    refine ⟨_, rfl, p, _, 3, _, rfl, rfl, hp, atI_nat (j := 3) rfl, rfl, _, rfl, ifn (fun h1 => ?_) (fun h1 => ?_)⟩
    · exact q _ (by simp [dueB, h1])
    · refine ⟨_, rfl, p, _, 2, _, rfl, rfl, hp, atI_nat (j := 2) rfl, _, _, rfl, rfl, _, rfl, ifd (fun h2 => ?_) (fun h2 => ?_)⟩
      · exact q _ (by simp [dueB, h2])
      · refine ⟨_, rfl, _, rfl, ifb2 (fun h3 => ?_) (fun h3 => ?_)⟩
        · exact q _ (by simp [dueB, h3])
        · have k : (decide (V.str z = V.str "") || decide (V.str z = V.str n.zone)) = true → ∀ b, b = decide (need + n.used + as ≤ n.size) → Q (.bl b) H := fun h b hb => q b (by rw [hb]; simp only [dueB, h, h1, h2, h3]; simp)
          have fin : (decide (V.str z = V.str "") || decide (V.str z = V.str n.zone)) = true → tRet (tOp (rI0 fun i j => V.bl (decide (i ≤ j))) (tOp (rI0 fun i j => V.int (i + j)) (tOp (rI0 fun i j => V.int (i + j)) (tOp (rIxT K) (tVar 1) (tC (V.int 2))) (tOp (rIxT K) (tVar 0) (tC (V.int 1)))) (tVar 3)) (tOp (rIxT K) (tVar 0) (tC (V.int 0)))) { nx := fun _ H' => Q .non H', rt := Q } [some (.ref p), some (.ref p2), some (.bl dr), some (.int as)] H := fun h =>
            ⟨_, rfl, p2, _, 2, _, rfl, rfl, hp2, atI_nat (j := 2) rfl, _, rfl, p, _, 1, _, rfl, rfl, hp, atI_nat (j := 1) rfl, _, _, rfl, rfl, _, rfl, _, _, rfl, rfl, _, rfl, p, _, 0, _, rfl, rfl, hp, atI_nat (j := 0) rfl, _, _, rfl, rfl, k h _ rfl⟩
          refine ⟨_, rfl, p2, _, 7, _, rfl, rfl, hp2, atI_nat (j := 7) rfl, rfl, _, rfl, ifn (fun h4 => ?_) (fun h4 => ifbf rfl ?_)⟩
          · refine ⟨_, rfl, p2, _, 7, _, rfl, rfl, hp2, atI_nat (j := 7) rfl, _, rfl, p, _, 4, _, rfl, rfl, hp, atI_nat (j := 4) rfl, rfl, _, rfl, ifn (fun h5 => ?_) (fun h5 => ?_)⟩
            · exact q _ (by simp only [dueB, h4, h5]; simp)
            · exact fin (by simp only [h5]; simp)
          · exact fin (by simp only [h4]; simp)
theorem ok__law_agrees (T : TX K mg) : FnOk P w K mg base CX0 3 T.a__law_agrees T.d__law_agrees ["node", "task", "drained", "assumed"] (sp_agrees K) := by
  refine T.F__law_agrees.ok sc__law_agrees (fun vs H Q E h => ?_) (fun cdv A outer s H vs Q E hr h => ?_)
  · obtain ⟨t, v, n, born, need, z, dr, as, rfl, _⟩ := h
    rfl
  · obtain ⟨t, v, n, born, need, z, dr, as, rfl, ht, hv, q⟩ := h
    refine ⟨_, (pss_cons (ps_set (i := 4) sc__law_agrees.nd rfl (Or.inl rfl) (pe_call (ok_free_size T) (hr.mono (by decide)) (by rfl) T.g_free_size T.F_free_size.kp T.b_free_size .nil pass0 (pa_cons (pv 0) (pa_cons (pv 3) pa_nil))))
      (pss_cons (ps_if (PW.pt (pw_or (pt_not (pt_val (pe_callB call_isi (by rfl) T.n_isinstance (by decide +kernel) (pa_cons (pv 4) (pa_cons (pe_bltn (v := .ty "int") (u := .type "int") (by rfl) T.n_int (by decide +kernel) rfl) pa_nil))))) (pw_or (pt_val (pe_callB call_isi (by rfl) T.n_isinstance (by decide +kernel) (pa_cons (pv 4) (pa_cons (pe_bltn (v := .ty "bool") (u := .type "bool") (by rfl) T.n_bool (by decide +kernel) rfl) pa_nil)))) (pw_or1 (pt_cmpR op_ne (pe_op op_add (pe_op op_add (pv 4) (pe_ix ix_tup (pv 0) pe_int (fun _ _ => rfl))) (pv 3)) (pe_ix ix_tup (pv 0) pe_int (fun _ _ => rfl)) (nomark _)))))) (pss_one (ps_ret pe_bl)) pss_nil)
      (pss_cons (ps_if (pt_not (pt_val (pe_call (ok__law_bool T) (hr.mono (by decide)) (by rfl) T.g__law_bool T.F__law_bool.kp T.b__law_bool .nil pass0 (pa_cons (pe_call (ok_is_open T) (hr.mono (by decide)) (by rfl) T.g_is_open T.F_is_open.kp T.b_is_open .nil pass0 (pa_cons (pv 0) pa_nil)) (pa_cons (pe_and (pe_cmpR op_eq (pe_ix ix_tup (pv 0) pe_int (fun _ _ => rfl)) pe_int (nomark _)) (pe_one (pe_cmpR op_ge (pe_ix ix_tup (pv 0) pe_int (fun _ _ => rfl)) pe_int (nomark _)))) pa_nil))))) (pss_one (ps_ret pe_bl)) pss_nil)
      (pss_one (ps_ret (pe_call (ok__law_bool T) (hr.mono (by decide)) (by rfl) T.g__law_bool T.F__law_bool.kp T.b__law_bool .nil pass0 (pa_cons (pe_call (ok_fits T) (hr.mono (by decide)) (by rfl) T.g_fits T.F_fits.kp T.b_fits .nil pass0 (pa_cons (pv 1) (pa_cons (pv 0) (pa_cons (pv 2) (pa_cons (pv 3) pa_nil))))) (pa_cons (pe_call (ok__law_due T) (hr.mono (by decide)) (by rfl) T.g__law_due T.F__law_due.kp T.b__law_due .nil pass0 (pa_cons (pv 0) (pa_cons (pv 1) (pa_cons (pv 2) (pa_cons (pv 3) pa_nil))))) pa_nil)))))))), ?_⟩
    have hv0 := hv
    obtain ⟨p, v0, v1, v2, v3, v4, rfl, hp, ⟨⟩, ⟨⟩, ⟨⟩, ⟨⟩, ⟨⟩⟩ := dp_t5 hv
    refine ⟨_, rfl, _, rfl, _, n, as, rfl, hv0, ?_⟩
    refine ⟨_, rfl, .int _, .ty "int", .type "int", .type "int", true, rfl, .ty _, .base (.int _), kit_ty (by decide +kernel), _, rfl, ifbf rfl ?_⟩
    refine ⟨_, rfl, .int _, .ty "bool", .type "int", .type "bool", false, rfl, .ty _, .base (.int _), kit_ty (by decide +kernel), _, rfl, ifbf rfl ?_⟩
    refine ⟨_, rfl, _, rfl, p, _, 1, _, rfl, rfl, hp, atI_nat (j := 1) rfl, _, _, rfl, rfl, _, rfl, _, _, rfl, rfl, _, rfl, p, _, 0, _, rfl, rfl, hp, atI_nat (j := 0) rfl, rfl, _, rfl, ifnt (congrArg V.int (by simp only [Nd.free]; omega)) ?_⟩
    refine ⟨_, rfl, _, n, rfl, hv0, fun b hb => ?_⟩
    refine ⟨_, rfl, p, _, 3, _, rfl, rfl, hp, atI_nat (j := 3) rfl, rfl, _, rfl, ?_⟩
    have fin : tRet (tCall sp_bool [] E0 (tCons (tCall (sp_fits K) [] E0 (tCons (tVar 1) (tCons (tVar 0) (tCons (tVar 2) (tCons (tVar 3) tNil))))) (tCons (tCall (sp_due K) [] E0 (tCons (tVar 0) (tCons (tVar 1) (tCons (tVar 2) (tCons (tVar 3) tNil))))) tNil))) { nx := fun _ H' => Q .non H', rt := Q } [some (.ref p), some t, some (.bl dr), some (.int as), some (.int (n.free as))] H := by
      refine ⟨_, rfl, _, rfl, _, rfl, _, rfl, t, _, n, born, need, z, dr, as, rfl, ht, hv0, fun b2 H2 hb2 s2 => ?_⟩
      refine ⟨_, rfl, _, rfl, _, rfl, _, rfl, t, _, n, born, need, z, dr, as, rfl, dp_same s2 _ ht, dp_same s2 _ hv0, fun b3 hb3 => ?_⟩
      exact ⟨_, _, rfl, by rw [hb2, hb3, due_fits], q _ s2⟩
    refine ifd (fun h1 => ?_) (fun h1 => ?_)
    · exact ⟨_, rfl, p, _, 2, _, rfl, rfl, hp, atI_nat (j := 2) rfl, _, _, rfl, rfl, _, _, rfl, by rw [hb]; simp [openB, h1], _, rfl, ifbf rfl fin⟩
    · exact ⟨_, _, rfl, by rw [hb]; simp [openB, h1], _, rfl, ifbf rfl fin⟩
theorem ok_law (T : TX K mg) : FnOk P w K mg base CX0 4 T.a_law T.d_law ["script"] (sp_law K) := by
  refine T.F_law.ok sc_law (fun vs H Q E h => ?_) (fun cdv A outer s H vs Q E hr h => ?_)
  · obtain ⟨a, ns, rfl, _⟩ := h
    rfl
  · obtain ⟨a, ns, rfl, hS, hlen, q⟩ := h
    refine ⟨_, (pss_cons (ps_for PassesOwn.never rfl (pi_range1 (by rfl) T.n_range (pa_cons pe_int pa_nil)) (pg_name (i := 1) sc_law.nd rfl (Or.inl rfl))
        (pss_cons (ps_asg (pe_call (ok__law_digits T) (hr.mono (by decide)) (by rfl) T.g__law_digits T.F__law_digits.kp T.b__law_digits .nil pass0 (pa_cons (pv 0) (pa_cons (pe_op op_mul pe_int (pv 1)) (pa_cons (pe_lst (pa_cons pe_int (pa_cons pe_int (pa_cons pe_int (pa_cons pe_int (pa_cons pe_int pa_nil)))))) pa_nil)))) (pg_unl rfl (pgs_cons (pg_name (i := 2) sc_law.nd rfl (Or.inl rfl)) (pgs_cons (pg_name (i := 3) sc_law.nd rfl (Or.inl rfl)) (pgs_cons (pg_name (i := 4) sc_law.nd rfl (Or.inl rfl)) (pgs_cons (pg_name (i := 5) sc_law.nd rfl (Or.inl rfl)) (pgs_cons (pg_name (i := 6) sc_law.nd rfl (Or.inl rfl)) pgs_nil)))))))
        (pss_cons (ps_set (i := 7) sc_law.nd rfl (Or.inl rfl) (pe_tup (pa_cons (pv 2) (pa_cons (pv 3) (pa_cons (pv 4) (pa_cons (pe_op op_fdiv (pv 5) pe_int) (pa_cons (pe_call (ok__law_zone T) (hr.mono (by decide)) (by rfl) T.g__law_zone T.F__law_zone.kp T.b__law_zone .nil pass0 (pa_cons (pv 6) pa_nil)) pa_nil)))))))
        (pss_cons (ps_asg (pe_call (ok__law_digits T) (hr.mono (by decide)) (by rfl) T.g__law_digits T.F__law_digits.kp T.b__law_digits .nil pass0 (pa_cons (pv 0) (pa_cons (pe_op op_add (pe_op op_mul pe_int (pv 1)) pe_int) (pa_cons (pe_lst (pa_cons pe_int (pa_cons pe_int (pa_cons pe_int pa_nil)))) pa_nil)))) (pg_unl rfl (pgs_cons (pg_name (i := 8) sc_law.nd rfl (Or.inl rfl)) (pgs_cons (pg_name (i := 9) sc_law.nd rfl (Or.inl rfl)) (pgs_cons (pg_name (i := 10) sc_law.nd rfl (Or.inl rfl)) pgs_nil)))))
        (pss_cons (ps_set (i := 11) sc_law.nd rfl (Or.inl rfl) (pe_tup (pa_cons (pv 8) (pa_cons pe_str (pa_cons (pv 9) (pa_cons pe_str (pa_cons pe_int (pa_cons pe_str (pa_cons pe_int (pa_cons (pe_call (ok__law_zone T) (hr.mono (by decide)) (by rfl) T.g__law_zone T.F__law_zone.kp T.b__law_zone .nil pass0 (pa_cons (pv 10) pa_nil)) pa_nil))))))))))
        (pss_cons (ps_asg (pe_call (ok__law_digits T) (hr.mono (by decide)) (by rfl) T.g__law_digits T.F__law_digits.kp T.b__law_digits .nil pass0 (pa_cons (pv 0) (pa_cons (pe_op op_add (pe_op op_mul pe_int (pv 1)) pe_int) (pa_cons (pe_lst (pa_cons pe_int (pa_cons pe_int (pa_cons pe_int pa_nil)))) pa_nil)))) (pg_unl rfl (pgs_cons (pg_name (i := 12) sc_law.nd rfl (Or.inl rfl)) (pgs_cons (pg_name (i := 13) sc_law.nd rfl (Or.inl rfl)) (pgs_cons (pg_name (i := 14) sc_law.nd rfl (Or.inl rfl)) pgs_nil)))))
        (pss_cons (ps_set (i := 15) sc_law.nd rfl (Or.inl rfl) (pe_op op_mul (pv 12) (pv 13)))
        (pss_cons (ps_if (pt_not (pt_val (pe_call (ok__law_agrees T) (hr.mono (by decide)) (by rfl) T.g__law_agrees T.F__law_agrees.kp T.b__law_agrees .nil pass0 (pa_cons (pv 7) (pa_cons (pv 11) (pa_cons (pe_cmpR op_eq (pv 14) pe_int (nomark _)) (pa_cons (pv 15) pa_nil))))))) (pss_one (ps_ret pe_bl)) pss_nil)
        (pss_cons (ps_set (i := 16) sc_law.nd rfl (Or.inl rfl) (pe_tup (pa_cons (pe_op op_add (pe_op op_add (pv 9) (pv 3)) (pv 15)) (pa_cons (pv 3) (pa_cons (pe_op op_add pe_int (pv 4)) (pa_cons pe_int (pa_cons (pe_ix ix_tup (pv 7) pe_int (fun _ _ => rfl)) pa_nil)))))))
        (pss_cons (ps_set (i := 17) sc_law.nd rfl (Or.inl rfl) (pe_tup (pa_cons (pe_callB (call_max2 rfl) (by rfl) T.n_max (by decide +kernel) (pa_cons pe_int (pa_cons (pe_op op_sub (pe_op op_add (pe_op op_add (pv 9) (pv 3)) (pv 15)) pe_int) pa_nil))) (pa_cons (pv 3) (pa_cons (pe_op op_add pe_int (pv 4)) (pa_cons pe_int (pa_cons (pe_ix ix_tup (pv 7) pe_int (fun _ _ => rfl)) pa_nil)))))))
        (pss_cons (ps_set (i := 18) sc_law.nd rfl (Or.inl rfl) (pe_op op_catA (pe_slice sl_tup (pv 11) po_none (po_some pe_int)) (pe_tup (pa_cons (pe_ix ix_tup (pv 7) pe_int (fun _ _ => rfl)) pa_nil))))
        (pss_one (ps_if (PW.pt (pw_or (pt_not (pt_val (pe_call (ok__law_agrees T) (hr.mono (by decide)) (by rfl) T.g__law_agrees T.F__law_agrees.kp T.b__law_agrees .nil pass0 (pa_cons (pv 16) (pa_cons (pv 18) (pa_cons pe_bl (pa_cons (pv 15) pa_nil))))))) (pw_or1 (pt_not (pt_val (pe_call (ok__law_agrees T) (hr.mono (by decide)) (by rfl) T.g__law_agrees T.F__law_agrees.kp T.b__law_agrees .nil pass0 (pa_cons (pv 17) (pa_cons (pv 18) (pa_cons pe_bl (pa_cons (pv 15) pa_nil)))))))))) (pss_one (ps_ret pe_bl)) pss_nil)))))))))))))
      (pss_one (ps_ret pe_bl))), ?_⟩
    refine ⟨20, rfl, by decide, by decide, for_range (lo := 0) (n := 20) (fun i σ G => ∃ x1 x2 x3 x4 x5 x6 x7 x8 x9 x10 x11 x12 x13 x14 x15 x16 x17 x18, σ = [some (.ref a), x1, x2, x3, x4, x5, x6, x7, x8, x9, x10, x11, x12, x13, x14, x15, x16, x17, x18] ∧ Same H G)
      ⟨none, none, none, none, none, none, none, none, none, none, none, none, none, none, none, none, none, none, rfl, Same.refl _⟩ ?_ ?_⟩
    · rintro i σ G hi ⟨x1, x2, x3, x4, x5, x6, x7, x8, x9, x10, x11, x12, x13, x14, x15, x16, x17, x18, rfl, s1⟩
      refine ⟨_, rfl, _, rfl, _, _, rfl, rfl, .inl ⟨by decide, by decide⟩, (by show 5 ≤ sizeLine; decide), fun z hz => ?_⟩
      have s2 := s1.trans (same_upd (o := .lst [.int 101, .int 121, .int 4, .int 3, .int 3]) hz)
      refine ⟨a, z, ns, [101, 121, 4, 3, 3], _, rfl, s2.seq hS, ⟨by omega, by omega⟩, sql upd_same, by decide, (by simp), fun p H3 ds hp s3 e3 hd => ?_⟩
      obtain ⟨size, used, life, lost, zone, rfl, b1, b2, b3, b4, b5⟩ := digs5 hd
      have s3 := s2.trans s3
      refine ⟨p, _, rfl, sql e3, rfl, _, _, rfl, _, _, rfl, _, _, rfl, _, _, rfl, _, _, rfl, rfl, ?_⟩
      clear s2 hz hp hd e3
      refine nrm19 rfl ?_
      -- node
      refine ⟨_, rfl, _, rfl, _, rfl, _, rfl, _, _, rfl, rfl, ⟨by decide, by decide⟩, _, rfl, _, rfl, b5, fun zn H4 hzn s4 => ⟨(by show 5 ≤ sizeLine; decide), fun pn hn => ?_⟩⟩
      dsimp only
      have s5 := (s3.trans s4).trans (same_upd (o := .tup [.int size, .int used, .int life, .int (lost / 2), .str zn]) hn)
      have dN : Dp K (upd H4 pn (.tup [.int size, .int used, .int life, .int (lost / 2), .str zn])) (.ref pn) (Nd.mk size used life (lost / 2) zn).d := .tup (sqt upd_same) (.cons (.int _) (.cons (.int _) (.cons (.int _) (.cons (.int _) (.cons (.str _) .nil)))))
      generalize upd H4 pn (.tup [.int size, .int used, .int life, .int (lost / 2), .str zn]) = H5 at s5 dN
      clear s3 s4 hn
      refine gnm19 rfl ?_
      -- task
      refine ⟨_, rfl, _, rfl, _, _, rfl, rfl, .inl ⟨by decide, by decide⟩, _, _, rfl, rfl, (by show 3 ≤ sizeLine; decide), fun z hz => ?_⟩
      have s6 := same_upd (o := .lst [.int 50, .int 101, .int 3]) hz
      refine ⟨a, z, ns, [50, 101, 3], _, rfl, (s5.trans s6).seq hS, ⟨by omega, by omega⟩, sql upd_same, by decide, (by simp), fun p H6 ds hp s7 e3 hd => ?_⟩
      obtain ⟨born, need, place, rfl, c1, c2, c3⟩ := digs3 hd
      refine ⟨p, _, rfl, sql e3, rfl, _, _, rfl, _, _, rfl, _, _, rfl, rfl, ?_⟩
      refine nrm19 rfl ?_
      refine ⟨_, rfl, _, rfl, _, rfl, _, rfl, c3, fun zt H7 hzt s8 => ⟨(by show 8 ≤ sizeLine; decide), fun pt hpt => ?_⟩⟩
      dsimp only
      have s9 := ((s6.trans s7).trans s8).trans (same_upd (o := .tup [.int born, .str "run", .int need, .str "new", .int 0, .str "", .int 0, .str zt]) hpt)
      have dT : Dp K (upd H7 pt (.tup [.int born, .str "run", .int need, .str "new", .int 0, .str "", .int 0, .str zt])) (.ref pt) (tkD born need zt) := .tup (sqt upd_same) (.cons (.int _) (.cons (.str _) (.cons (.int _) (.cons (.str _) (.cons (.int _) (.cons (.str _) (.cons (.int _) (.cons (.str _) .nil))))))))
      have dN := dp_same s9 _ dN
      have s10 := s5.trans s9
      generalize upd H7 pt (.tup [.int born, .str "run", .int need, .str "new", .int 0, .str "", .int 0, .str zt]) = H8 at s10 dN dT
      clear s5 s6 s7 s8 s9 hpt hp hd e3 hz
      refine gnm19 rfl ?_
      -- more, some, drain
      refine ⟨_, rfl, _, rfl, _, _, rfl, rfl, .inl ⟨by decide, by decide⟩, _, _, rfl, rfl, (by show 3 ≤ sizeLine; decide), fun z hz => ?_⟩
      have s6 := same_upd (o := .lst [.int 41, .int 2, .int 4]) hz
      refine ⟨a, z, ns, [41, 2, 4], _, rfl, (s10.trans s6).seq hS, ⟨by omega, by omega⟩, sql upd_same, by decide, (by simp), fun p H9 ds hp s7 e3 hd => ?_⟩
      obtain ⟨more, some_, drain, rfl, m1, m2, m3⟩ := digs3 hd
      refine ⟨p, _, rfl, sql e3, rfl, _, _, rfl, _, _, rfl, _, _, rfl, rfl, ?_⟩
      have s11 := s10.trans (s6.trans s7)
      have dN := dp_same (s6.trans s7) _ dN
      have dT := dp_same (s6.trans s7) _ dT
      clear s6 s7 s10 hp hd e3 hz
      refine nrm19 rfl ?_
      refine ⟨_, rfl, _, rfl, _, _, rfl, rfl, .inl ⟨by omega, by omega⟩, ?_⟩
      refine nrm19 rfl ?_
      refine ⟨_, rfl, _, rfl, _, rfl, rfl, _, rfl, _, _, _, born, need, zt, _, more * some_, rfl, dT, dN, fun H10 s12 => ⟨_, rfl, ifbf rfl ?_⟩⟩
      have dN := dp_same s12 _ dN
      have dT := dp_same s12 _ dT
      have s13 := s11.trans s12
      clear s11 s12
      dsimp only
      generalize more * some_ = as
      obtain ⟨pn', v0, v1, v2, v3, v4, epn, hpn, ⟨⟩, ⟨⟩, ⟨⟩, ⟨⟩, ⟨⟩⟩ := dp_t5 dN
      cases epn
      have hpn : SqT K H10 pn [.int size, .int used, .int life, .int (lost / 2), .str zn] := hpn
      refine nrm19 rfl ?_
      -- exact
      refine ⟨_, rfl, _, rfl, _, _, rfl, rfl, _, rfl, _, _, rfl, rfl, _, rfl, _, rfl, _, _, rfl, rfl, _, rfl, pn, _, 4, _, rfl, rfl, hpn, atI_nat (j := 4) rfl, (by show 5 ≤ sizeLine; decide), fun pe hpe => ?_⟩
      dsimp only
      have s14 := same_upd (o := .tup [.int (need + used + as), .int used, .int (1 + life), .int 0, .str zn]) hpe
      have dE : Dp K (upd H10 pe (.tup [.int (need + used + as), .int used, .int (1 + life), .int 0, .str zn])) (.ref pe) (Nd.mk (need + used + as) used (1 + life) 0 zn).d := .tup (sqt upd_same) (.cons (.int _) (.cons (.int _) (.cons (.int _) (.cons (.int _) (.cons (.str _) .nil)))))
      have hpn := sqt_same s14 hpn
      have dT := dp_same s14 _ dT
      have s15 := s13.trans s14
      generalize upd H10 pe (.tup [.int (need + used + as), .int used, .int (1 + life), .int 0, .str zn]) = H11 at s15 dE hpn dT
      clear s13 s14 hpe dN
      refine gnm19 rfl ?_
      -- less
      refine ⟨_, rfl, _, rfl, _, _, rfl, rfl, _, rfl, _, _, rfl, rfl, _, _, rfl, rfl, _, _, rfl, _, rfl, _, rfl, _, _, rfl, rfl, _, rfl, pn, _, 4, _, rfl, rfl, hpn, atI_nat (j := 4) rfl, (by show 5 ≤ sizeLine; decide), fun pl hpl => ?_⟩
      dsimp only
      generalize (if (0 : Int) < need + used + as - 1 then need + used + as - 1 else 0) = ls
      have s14 := same_upd (o := .tup [.int ls, .int used, .int (1 + life), .int 0, .str zn]) hpl
      have dL : Dp K (upd H11 pl (.tup [.int ls, .int used, .int (1 + life), .int 0, .str zn])) (.ref pl) (Nd.mk ls used (1 + life) 0 zn).d := .tup (sqt upd_same) (.cons (.int _) (.cons (.int _) (.cons (.int _) (.cons (.int _) (.cons (.str _) .nil)))))
      have hpn := sqt_same s14 hpn
      have dT := dp_same s14 _ dT
      have dE := dp_same s14 _ dE
      have s16 := s15.trans s14
      generalize upd H11 pl (.tup [.int ls, .int used, .int (1 + life), .int 0, .str zn]) = H12 at s16 dE dL hpn dT
      clear s15 s14 hpl
      refine gnm19 rfl ?_
      -- same
      obtain ⟨pt', w0, w1, w2, w3, w4, w5, w6, w7, ept, hpt, ⟨⟩, ⟨⟩, ⟨⟩, ⟨⟩, ⟨⟩, ⟨⟩, ⟨⟩, ⟨⟩⟩ := dp_t8 dT
      cases ept
      refine ⟨_, rfl, _, rfl, pt, _, rfl, hpt, (fun h => absurd (show (7 : Nat) = 8 from h.2) (by decide)), fun p1 h1 => ?_⟩
      have s14 := same_upd (o := .tup (cutV [.int born, .str "run", .int need, .str "new", .int 0, .str "", .int 0, .str zt] none (some 7))) h1
      have ht7 : SqT K (upd H12 p1 (.tup (cutV [.int born, .str "run", .int need, .str "new", .int 0, .str "", .int 0, .str zt] none (some 7)))) p1 [.int born, .str "run", .int need, .str "new", .int 0, .str "", .int 0] := sqt (by rw [upd_same]; rfl)
      have hpn := sqt_same s14 hpn
      have dE := dp_same s14 _ dE
      have dL := dp_same s14 _ dL
      have s17 := s16.trans s14
      generalize upd H12 p1 (.tup (cutV [.int born, .str "run", .int need, .str "new", .int 0, .str "", .int 0, .str zt] none (some 7))) = H13 at s17 dE dL hpn ht7
      clear s16 s14 h1 hpt dT
      refine ⟨_, rfl, pn, _, 4, _, rfl, rfl, hpn, atI_nat (j := 4) rfl, (by show 1 ≤ sizeLine; decide), fun p2 h2 => ?_⟩
      have s14 := same_upd (o := .tup [.str zn]) h2
      refine ⟨p1, p2, [.int born, .str "run", .int need, .str "new", .int 0, .str "", .int 0], [.str zn], rfl, rfl, sqt_same s14 ht7, sqt upd_same, (by show 8 ≤ sizeLine; decide), (fun h => by cases h), (fun _ h => by cases h), fun _ _ p3 h3 => ?_⟩
      have s15 := s14.trans (same_upd (o := .tup ([.int born, .str "run", .int need, .str "new", .int 0, .str "", .int 0] ++ [.str zn])) h3)
      have dS : Dp K (upd (upd H13 p2 (.tup [.str zn])) p3 (.tup ([.int born, .str "run", .int need, .str "new", .int 0, .str "", .int 0] ++ [.str zn]))) (.ref p3) (tkD born need zn) := .tup (sqt upd_same) (.cons (.int _) (.cons (.str _) (.cons (.int _) (.cons (.str _) (.cons (.int _) (.cons (.str _) (.cons (.int _) (.cons (.str _) .nil))))))))
      have dE := dp_same s15 _ dE
      have dL := dp_same s15 _ dL
      have s18 := s17.trans s15
      generalize upd (upd H13 p2 (.tup [.str zn])) p3 (.tup ([.int born, .str "run", .int need, .str "new", .int 0, .str "", .int 0] ++ [.str zn])) = H14 at s18 dE dL dS
      clear s17 s15 s14 h3 h2 hpn ht7
      refine gnm19 rfl ?_
      refine ⟨_, rfl, _, rfl, _, rfl, _, _, _, born, need, zn, false, as, rfl, dS, dE, fun H15 s19 => ⟨_, rfl, ifbf rfl ?_⟩⟩
      refine ⟨_, rfl, _, rfl, _, rfl, _, _, _, born, need, zn, false, as, rfl, dp_same s19 _ dS, dp_same s19 _ dL, fun H16 s20 => ⟨_, rfl, ifbf rfl ?_⟩⟩
      exact ⟨_, _, _, _, _, _, _, _, _, _, _, _, _, _, _, _, _, _, rfl, (s18.trans s19).trans s20⟩
    · rintro σ G ⟨x1, x2, x3, x4, x5, x6, x7, x8, x9, x10, x11, x12, x13, x14, x15, x16, x17, x18, rfl, s1⟩
      exact q _
end
theorem all_mk {l : PySem.W.OpenLaw} {w : World} {K : PySem.W.Frag} {h : Heap} {mg : Str → Option Value} {fa : Addr} (X : K.In h) (G : h.Ns mainGlobals mg) (hfa : mg "law" = some (.ref fa))
    {f_free_size : Addr} {od_free_size an_free_size : Option Addr} {sl_free_size : Array (Option Value)} {oc_free_size kV_free_size dc_free_size pm_free_size cd_free_size ct_free_size : Value} {f_is_open : Addr} {od_is_open an_is_open : Option Addr} {sl_is_open : Array (Option Value)} {oc_is_open kV_is_open dc_is_open pm_is_open cd_is_open ct_is_open : Value} {f_fits : Addr} {od_fits an_fits : Option Addr} {sl_fits : Array (Option Value)} {oc_fits kV_fits dc_fits pm_fits cd_fits ct_fits : Value} {f__law_number : Addr} {od__law_number an__law_number : Option Addr} {sl__law_number : Array (Option Value)} {oc__law_number kV__law_number dc__law_number pm__law_number cd__law_number ct__law_number : Value} {f__law_digits : Addr} {od__law_digits an__law_digits : Option Addr} {sl__law_digits : Array (Option Value)} {oc__law_digits kV__law_digits dc__law_digits pm__law_digits cd__law_digits ct__law_digits : Value} {f__law_zone : Addr} {od__law_zone an__law_zone : Option Addr} {sl__law_zone : Array (Option Value)} {oc__law_zone kV__law_zone dc__law_zone pm__law_zone cd__law_zone ct__law_zone : Value} {f__law_due : Addr} {od__law_due an__law_due : Option Addr} {sl__law_due : Array (Option Value)} {oc__law_due kV__law_due dc__law_due pm__law_due cd__law_due ct__law_due : Value} {f__law_bool : Addr} {od__law_bool an__law_bool : Option Addr} {sl__law_bool : Array (Option Value)} {oc__law_bool kV__law_bool dc__law_bool pm__law_bool cd__law_bool ct__law_bool : Value} {f__law_agrees : Addr} {od__law_agrees an__law_agrees : Option Addr} {sl__law_agrees : Array (Option Value)} {oc__law_agrees kV__law_agrees dc__law_agrees pm__law_agrees cd__law_agrees ct__law_agrees : Value} {f_law : Addr} {od_law an_law : Option Addr} {sl_law : Array (Option Value)} {oc_law kV_law dc_law pm_law cd_law ct_law : Value} {t_SIZE : Tok} {t_ZONE : Tok}
    (g_free_size : PySem.W.nsIn K mainGlobals "free_size" = some (some (.ref f_free_size)))
    (l_free_size : K.lookup f_free_size = some ⟨oc_free_size, od_free_size, .func (PySem.W.fnOf "free_size" "free_size" (defArgs s_free_size) (defBody s_free_size) (defScope s_free_size) .none kV_free_size dc_free_size pm_free_size an_free_size cd_free_size ct_free_size), sl_free_size⟩)
    (c_free_size : PySem.W.codeIn K cd_free_size "free_size" = true)
    (k_free_size : PySem.W.keepIn K (.ref f_free_size) = true)
    (g_is_open : PySem.W.nsIn K mainGlobals "is_open" = some (some (.ref f_is_open)))
    (l_is_open : K.lookup f_is_open = some ⟨oc_is_open, od_is_open, .func (PySem.W.fnOf "is_open" "is_open" (defArgs s_is_open) (defBody s_is_open) (defScope s_is_open) .none kV_is_open dc_is_open pm_is_open an_is_open cd_is_open ct_is_open), sl_is_open⟩)
    (c_is_open : PySem.W.codeIn K cd_is_open "is_open" = true)
    (k_is_open : PySem.W.keepIn K (.ref f_is_open) = true)
    (g_fits : PySem.W.nsIn K mainGlobals "fits" = some (some (.ref f_fits)))
    (l_fits : K.lookup f_fits = some ⟨oc_fits, od_fits, .func (PySem.W.fnOf "fits" "fits" (defArgs s_fits) (defBody s_fits) (defScope s_fits) .none kV_fits dc_fits pm_fits an_fits cd_fits ct_fits), sl_fits⟩)
    (c_fits : PySem.W.codeIn K cd_fits "fits" = true)
    (k_fits : PySem.W.keepIn K (.ref f_fits) = true)
    (g__law_number : PySem.W.nsIn K mainGlobals "_law_number" = some (some (.ref f__law_number)))
    (l__law_number : K.lookup f__law_number = some ⟨oc__law_number, od__law_number, .func (PySem.W.fnOf "_law_number" "_law_number" (defArgs s__law_number) (defBody s__law_number) (defScope s__law_number) .none kV__law_number dc__law_number pm__law_number an__law_number cd__law_number ct__law_number), sl__law_number⟩)
    (c__law_number : PySem.W.codeIn K cd__law_number "_law_number" = true)
    (k__law_number : PySem.W.keepIn K (.ref f__law_number) = true)
    (g__law_digits : PySem.W.nsIn K mainGlobals "_law_digits" = some (some (.ref f__law_digits)))
    (l__law_digits : K.lookup f__law_digits = some ⟨oc__law_digits, od__law_digits, .func (PySem.W.fnOf "_law_digits" "_law_digits" (defArgs s__law_digits) (defBody s__law_digits) (defScope s__law_digits) .none kV__law_digits dc__law_digits pm__law_digits an__law_digits cd__law_digits ct__law_digits), sl__law_digits⟩)
    (c__law_digits : PySem.W.codeIn K cd__law_digits "_law_digits" = true)
    (k__law_digits : PySem.W.keepIn K (.ref f__law_digits) = true)
    (g__law_zone : PySem.W.nsIn K mainGlobals "_law_zone" = some (some (.ref f__law_zone)))
    (l__law_zone : K.lookup f__law_zone = some ⟨oc__law_zone, od__law_zone, .func (PySem.W.fnOf "_law_zone" "_law_zone" (defArgs s__law_zone) (defBody s__law_zone) (defScope s__law_zone) .none kV__law_zone dc__law_zone pm__law_zone an__law_zone cd__law_zone ct__law_zone), sl__law_zone⟩)
    (c__law_zone : PySem.W.codeIn K cd__law_zone "_law_zone" = true)
    (k__law_zone : PySem.W.keepIn K (.ref f__law_zone) = true)
    (g__law_due : PySem.W.nsIn K mainGlobals "_law_due" = some (some (.ref f__law_due)))
    (l__law_due : K.lookup f__law_due = some ⟨oc__law_due, od__law_due, .func (PySem.W.fnOf "_law_due" "_law_due" (defArgs s__law_due) (defBody s__law_due) (defScope s__law_due) .none kV__law_due dc__law_due pm__law_due an__law_due cd__law_due ct__law_due), sl__law_due⟩)
    (c__law_due : PySem.W.codeIn K cd__law_due "_law_due" = true)
    (k__law_due : PySem.W.keepIn K (.ref f__law_due) = true)
    (g__law_bool : PySem.W.nsIn K mainGlobals "_law_bool" = some (some (.ref f__law_bool)))
    (l__law_bool : K.lookup f__law_bool = some ⟨oc__law_bool, od__law_bool, .func (PySem.W.fnOf "_law_bool" "_law_bool" (defArgs s__law_bool) (defBody s__law_bool) (defScope s__law_bool) .none kV__law_bool dc__law_bool pm__law_bool an__law_bool cd__law_bool ct__law_bool), sl__law_bool⟩)
    (c__law_bool : PySem.W.codeIn K cd__law_bool "_law_bool" = true)
    (k__law_bool : PySem.W.keepIn K (.ref f__law_bool) = true)
    (g__law_agrees : PySem.W.nsIn K mainGlobals "_law_agrees" = some (some (.ref f__law_agrees)))
    (l__law_agrees : K.lookup f__law_agrees = some ⟨oc__law_agrees, od__law_agrees, .func (PySem.W.fnOf "_law_agrees" "_law_agrees" (defArgs s__law_agrees) (defBody s__law_agrees) (defScope s__law_agrees) .none kV__law_agrees dc__law_agrees pm__law_agrees an__law_agrees cd__law_agrees ct__law_agrees), sl__law_agrees⟩)
    (c__law_agrees : PySem.W.codeIn K cd__law_agrees "_law_agrees" = true)
    (k__law_agrees : PySem.W.keepIn K (.ref f__law_agrees) = true)
    (g_law : PySem.W.nsIn K mainGlobals "law" = some (some (.ref f_law)))
    (l_law : K.lookup f_law = some ⟨oc_law, od_law, .func (PySem.W.fnOf "law" "law" (defArgs s_law) (defBody s_law) (defScope s_law) .none kV_law dc_law pm_law an_law cd_law ct_law), sl_law⟩)
    (c_law : PySem.W.codeIn K cd_law "law" = true)
    (k_law : PySem.W.keepIn K (.ref f_law) = true)
    (c_SIZE : PySem.W.nsIn K mainGlobals "SIZE" = some (some (.int 2 t_SIZE)))
    (c_ZONE : PySem.W.nsIn K mainGlobals "ZONE" = some (some (.int 7 t_ZONE)))
    (n_len : PySem.W.nsIn K mainGlobals "len" = some none)
    (n_abs : PySem.W.nsIn K mainGlobals "abs" = some none)
    (n_int : PySem.W.nsIn K mainGlobals "int" = some none)
    (n_isinstance : PySem.W.nsIn K mainGlobals "isinstance" = some none)
    (n_bool : PySem.W.nsIn K mainGlobals "bool" = some none)
    (n_range : PySem.W.nsIn K mainGlobals "range" = some none)
    (n_max : PySem.W.nsIn K mainGlobals "max" = some none) :
    ∃ fd : FuncData, (∀ (s : Shared) (v : Value), BindsTo s fd ⟨[v], []⟩ [("script", v)]) ∧ ∀ base : Heap, K.In base → base.Ns mainGlobals mg → FnOk l.prog w K mg base CX0 4 fa fd ["script"] (sp_law K) := by
  have e : fa = f_law := by
    have z := hfa.symm.trans (PySem.W.mg_of X G g_law)
    injection z with z
    injection z
  rw [e]
  let T : TX K mg := ⟨f_free_size, (PySem.W.fnOf "free_size" "free_size" (defArgs s_free_size) (defBody s_free_size) (defScope s_free_size) .none kV_free_size dc_free_size pm_free_size an_free_size cd_free_size ct_free_size), (fun_mk (st := s_free_size) l_free_size c_free_size k_free_size), ((fun_mk (st := s_free_size) l_free_size c_free_size k_free_size).binds (ps := ["node_value", "assumed"]) fun _ _ _ _ _ _ us hl => match us, hl with | [_, _], _ => rfl), (PySem.W.mg_of X G g_free_size), f_is_open, (PySem.W.fnOf "is_open" "is_open" (defArgs s_is_open) (defBody s_is_open) (defScope s_is_open) .none kV_is_open dc_is_open pm_is_open an_is_open cd_is_open ct_is_open), (fun_mk (st := s_is_open) l_is_open c_is_open k_is_open), ((fun_mk (st := s_is_open) l_is_open c_is_open k_is_open).binds (ps := ["node_value"]) fun _ _ _ _ _ _ us hl => match us, hl with | [_], _ => rfl), (PySem.W.mg_of X G g_is_open), f_fits, (PySem.W.fnOf "fits" "fits" (defArgs s_fits) (defBody s_fits) (defScope s_fits) .none kV_fits dc_fits pm_fits an_fits cd_fits ct_fits), (fun_mk (st := s_fits) l_fits c_fits k_fits), ((fun_mk (st := s_fits) l_fits c_fits k_fits).binds (ps := ["task_value", "node_value", "drained", "assumed"]) fun _ _ _ _ _ _ us hl => match us, hl with | [_, _, _, _], _ => rfl), (PySem.W.mg_of X G g_fits), f__law_number, (PySem.W.fnOf "_law_number" "_law_number" (defArgs s__law_number) (defBody s__law_number) (defScope s__law_number) .none kV__law_number dc__law_number pm__law_number an__law_number cd__law_number ct__law_number), (fun_mk (st := s__law_number) l__law_number c__law_number k__law_number), ((fun_mk (st := s__law_number) l__law_number c__law_number k__law_number).binds (ps := ["script", "k"]) fun _ _ _ _ _ _ us hl => match us, hl with | [_, _], _ => rfl), (PySem.W.mg_of X G g__law_number), f__law_digits, (PySem.W.fnOf "_law_digits" "_law_digits" (defArgs s__law_digits) (defBody s__law_digits) (defScope s__law_digits) .none kV__law_digits dc__law_digits pm__law_digits an__law_digits cd__law_digits ct__law_digits), (fun_mk (st := s__law_digits) l__law_digits c__law_digits k__law_digits), ((fun_mk (st := s__law_digits) l__law_digits c__law_digits k__law_digits).binds (ps := ["script", "k", "sizes"]) fun _ _ _ _ _ _ us hl => match us, hl with | [_, _, _], _ => rfl), (PySem.W.mg_of X G g__law_digits), f__law_zone, (PySem.W.fnOf "_law_zone" "_law_zone" (defArgs s__law_zone) (defBody s__law_zone) (defScope s__law_zone) .none kV__law_zone dc__law_zone pm__law_zone an__law_zone cd__law_zone ct__law_zone), (fun_mk (st := s__law_zone) l__law_zone c__law_zone k__law_zone), ((fun_mk (st := s__law_zone) l__law_zone c__law_zone k__law_zone).binds (ps := ["digit"]) fun _ _ _ _ _ _ us hl => match us, hl with | [_], _ => rfl), (PySem.W.mg_of X G g__law_zone), f__law_due, (PySem.W.fnOf "_law_due" "_law_due" (defArgs s__law_due) (defBody s__law_due) (defScope s__law_due) .none kV__law_due dc__law_due pm__law_due an__law_due cd__law_due ct__law_due), (fun_mk (st := s__law_due) l__law_due c__law_due k__law_due), ((fun_mk (st := s__law_due) l__law_due c__law_due k__law_due).binds (ps := ["node", "task", "drained", "assumed"]) fun _ _ _ _ _ _ us hl => match us, hl with | [_, _, _, _], _ => rfl), (PySem.W.mg_of X G g__law_due), f__law_bool, (PySem.W.fnOf "_law_bool" "_law_bool" (defArgs s__law_bool) (defBody s__law_bool) (defScope s__law_bool) .none kV__law_bool dc__law_bool pm__law_bool an__law_bool cd__law_bool ct__law_bool), (fun_mk (st := s__law_bool) l__law_bool c__law_bool k__law_bool), ((fun_mk (st := s__law_bool) l__law_bool c__law_bool k__law_bool).binds (ps := ["actual", "due"]) fun _ _ _ _ _ _ us hl => match us, hl with | [_, _], _ => rfl), (PySem.W.mg_of X G g__law_bool), f__law_agrees, (PySem.W.fnOf "_law_agrees" "_law_agrees" (defArgs s__law_agrees) (defBody s__law_agrees) (defScope s__law_agrees) .none kV__law_agrees dc__law_agrees pm__law_agrees an__law_agrees cd__law_agrees ct__law_agrees), (fun_mk (st := s__law_agrees) l__law_agrees c__law_agrees k__law_agrees), ((fun_mk (st := s__law_agrees) l__law_agrees c__law_agrees k__law_agrees).binds (ps := ["node", "task", "drained", "assumed"]) fun _ _ _ _ _ _ us hl => match us, hl with | [_, _, _, _], _ => rfl), (PySem.W.mg_of X G g__law_agrees), f_law, (PySem.W.fnOf "law" "law" (defArgs s_law) (defBody s_law) (defScope s_law) .none kV_law dc_law pm_law an_law cd_law ct_law), (fun_mk (st := s_law) l_law c_law k_law), ((fun_mk (st := s_law) l_law c_law k_law).binds (ps := ["script"]) fun _ _ _ _ _ _ us hl => match us, hl with | [_], _ => rfl), (PySem.W.mg_of X G g_law), t_SIZE, (PySem.W.mg_of X G c_SIZE), t_ZONE, (PySem.W.mg_of X G c_ZONE), (PySem.W.mg_none_of X G n_len), (PySem.W.mg_none_of X G n_abs), (PySem.W.mg_none_of X G n_int), (PySem.W.mg_none_of X G n_isinstance), (PySem.W.mg_none_of X G n_bool), (PySem.W.mg_none_of X G n_range), (PySem.W.mg_none_of X G n_max)⟩
  exact ⟨T.d_law, fun s v => .of_eq rfl, fun base _ _ => ok_law T⟩
end My
open PySem PySem.W PyProof.Rows
set_option maxHeartbeats 0 in
theorem PySem.Challenge.cw_majordomo_k67_room_on_a_node_holds : PySem.Challenge.rw_majordomo_k67_room_on_a_node.Holds := by
  w_on; o_law; k_head; (case hw => w_witness2)
  k_fill
  refine L2.walk_of (l := PySem.Challenge.rw_majordomo_k67_room_on_a_node) (n := 63) (k := 4) (x := "script") (CX := (fun _ => L2.CX0)) (sp := fun w => My.sp_law _) rfl (by decide) rfl ⟨rfl, by decide, by decide⟩ (fun w h Y => PySem.W.kIn_of Y) ?F (fun _ _ a ns hl _ hS => ⟨a, ns, rfl, hS, hl, fun _ => rfl⟩) (fun _ _ _ _ _ h => h)
  case F =>
    intro w mg fa h KX G hmg
    refine' My.all_mk KX G hmg ?g_free_size ?l_free_size ?c_free_size ?k_free_size ?g_is_open ?l_is_open ?c_is_open ?k_is_open ?g_fits ?l_fits ?c_fits ?k_fits ?g__law_number ?l__law_number ?c__law_number ?k__law_number ?g__law_digits ?l__law_digits ?c__law_digits ?k__law_digits ?g__law_zone ?l__law_zone ?c__law_zone ?k__law_zone ?g__law_due ?l__law_due ?c__law_due ?k__law_due ?g__law_bool ?l__law_bool ?c__law_bool ?k__law_bool ?g__law_agrees ?l__law_agrees ?c__law_agrees ?k__law_agrees ?g_law ?l_law ?c_law ?k_law ?c_SIZE ?c_ZONE ?n_len ?n_abs ?n_int ?n_isinstance ?n_bool ?n_range ?n_max
    (case g_free_size => k_is); (case l_free_size => k_is); (case c_free_size => k_is); (case k_free_size => k_is); (case g_is_open => k_is); (case l_is_open => k_is); (case c_is_open => k_is); (case k_is_open => k_is); (case g_fits => k_is); (case l_fits => k_is); (case c_fits => k_is); (case k_fits => k_is); (case g__law_number => k_is); (case l__law_number => k_is); (case c__law_number => k_is); (case k__law_number => k_is); (case g__law_digits => k_is); (case l__law_digits => k_is); (case c__law_digits => k_is); (case k__law_digits => k_is); (case g__law_zone => k_is); (case l__law_zone => k_is); (case c__law_zone => k_is); (case k__law_zone => k_is); (case g__law_due => k_is); (case l__law_due => k_is); (case c__law_due => k_is); (case k__law_due => k_is); (case g__law_bool => k_is); (case l__law_bool => k_is); (case c__law_bool => k_is); (case k__law_bool => k_is); (case g__law_agrees => k_is); (case l__law_agrees => k_is); (case c__law_agrees => k_is); (case k__law_agrees => k_is); (case g_law => k_is); (case l_law => k_is); (case c_law => k_is); (case k_law => k_is); (case c_SIZE => k_is); (case c_ZONE => k_is); (case n_len => k_is); (case n_abs => k_is); (case n_int => k_is); (case n_isinstance => k_is); (case n_bool => k_is); (case n_range => k_is); (case n_max => k_is)

