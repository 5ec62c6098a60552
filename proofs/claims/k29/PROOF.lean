import PyProof.Rows.All
import Wide.All
import OpenK.AllK
import Wide.FinOn
import HandS.ForMost
import HandS.IsInst
import HandS.EndBits
import HandS.Wide
import HandS.WideBits
import HandS.TupAny
import HandS.Codes
import HandS.Defaults
import HandS.ForExc
import HandS.TryMany
import HandS.ExcIs
import HandS.TryElse
import HandS.DictComp
import HandS.Walk
import HandS.FStr
import HandS.Text
import HandS.TupLe
import PySem.Challenge.RW_majordomo_k29_names_and_texts
set_option Elab.async false
set_option linter.all false
set_option maxRecDepth 100000
set_option maxHeartbeats 4000000

namespace My
open PySem PySem.Spec PyProof.Rows L2
/-! own words: tests, heaps, items -/
theorem ifd {p A B : Prop} [Decidable p] (h1 : p → A) (h2 : ¬ p → B) : if decide p = true then A else B := by
  by_cases h : p
  · rw [decide_eq_true h]; exact (if_pos rfl).mpr (h1 h)
  · rw [decide_eq_false h]; exact (if_neg Bool.false_ne_true).mpr (h2 h)
theorem ifn {p A B : Prop} [Decidable p] (h1 : ¬ p → A) (h2 : p → B) : if (!decide p) = true then A else B := by
  by_cases h : p
  · rw [decide_eq_true h]; exact (if_neg Bool.false_ne_true).mpr (h2 h)
  · rw [decide_eq_false h]; exact (if_pos rfl).mpr (h1 h)
theorem ift {p A B : Prop} [Decidable p] (h : p) (h1 : A) : if decide p = true then A else B := by
  rw [decide_eq_true h]; exact (if_pos rfl).mpr h1
theorem iff0 {p A B : Prop} [Decidable p] (h : ¬ p) (h1 : B) : if decide p = true then A else B := by
  rw [decide_eq_false h]; exact (if_neg Bool.false_ne_true).mpr h1
theorem ifnt {p A B : Prop} [Decidable p] (h : p) (h1 : B) : if (!decide p) = true then A else B := by
  rw [decide_eq_true h]; exact (if_neg Bool.false_ne_true).mpr h1
theorem ifbt {b : Bool} {A B : Prop} (h : b = true) (h1 : A) : if b = true then A else B := (if_pos h).mpr h1
theorem ifbf {b : Bool} {A B : Prop} (h : b = false) (h1 : B) : if b = true then A else B := by rw [h]; exact h1
theorem ifb2 {b : Bool} {A B : Prop} (h1 : b = true → A) (h2 : b = false → B) : if b = true then A else B := by
  cases b with
  | true => exact h1 rfl
  | false => exact h2 rfl
theorem same_upd {H : Hp} {p : Addr} {o : HO} (h : H p = none) : Same H (upd H p o) := fun b x e => by
  rw [upd_ne (ne_of_none e h)]
  exact e
theorem same_put {H H' : Hp} {p : Addr} {o : HO} (e : Same H H') (h : H p = none) : Same H (upd H' p o) := fun b x q => by
  rw [upd_ne (ne_of_none q h)]
  exact e b x q
theorem sqt_same {K : PySem.W.Frag} {H H' : Hp} {a : Addr} {xs : List V} (e : Same H H') (h : SqT K H a xs) : SqT K H' a xs := by
  rcases h with (h | ⟨o, h⟩) | h
  · exact .inl (.inl (e _ _ h))
  · exact .inl (.inr ⟨o, e _ _ h⟩)
  · exact .inr h
theorem sql {K : PySem.W.Frag} {H : Hp} {a : Addr} {xs : List V} (h : H a = some (.lst xs)) : SqL K H a xs := .inl (.inl h)
theorem sqt {K : PySem.W.Frag} {H : Hp} {a : Addr} {xs : List V} (h : H a = some (.tup xs)) : SqT K H a xs := .inl (.inl h)
theorem sz {n : Nat} (h : n ≤ 100000) : n ≤ sizeLine := Nat.le_trans h (by decide)
theorem szl {n : Nat} (h : n ≤ 100000) : n < sizeLine := Nat.lt_of_le_of_lt h (by decide)
theorem map_at {α : Type} {f : α → V} {xs : List α} {i : Nat} {y : V} (h : (xs.map f)[i]? = some y) : ∃ x, xs[i]? = some x ∧ y = f x := by
  rw [List.getElem?_map] at h
  cases e : xs[i]? with
  | none => rw [e] at h; cases h
  | some x => rw [e] at h; exact ⟨x, rfl, (Option.some.inj h).symm⟩
theorem at_map {α : Type} {f : α → V} {xs : List α} {i : Nat} {x : α} (h : xs[i]? = some x) : atI (xs.map f) (i : Int) = some (f x) := atI_nat (by rw [List.getElem?_map, h]; rfl)
theorem take_more {α : Type} {l : List α} {i : Nat} {x : α} (h : l[i]? = some x) : l.take (i + 1) = l.take i ++ [x] := by
  rw [List.take_add_one, h]; rfl
/-! deep data stands as long as what was tracked stands -/
mutual
theorem dp_same {K : PySem.W.Frag} {H H' : Hp} (e : Same H H') : ∀ (d : PyData) {v : V}, Dp K H v d → Dp K H' v d
  | _, _, .non => .non
  | _, _, .bl b => .bl b
  | _, _, .int i => .int i
  | _, _, .str x => .str x
  | .list ds, _, .lst h a => .lst (e.seq h) (dpa_same e ds a)
  | .tuple ds, _, .tup h a => .tup (sqt_same e h) (dpa_same e ds a)
theorem dpa_same {K : PySem.W.Frag} {H H' : Hp} (e : Same H H') : ∀ (ds : List PyData) {vs : List V}, DpAll K H vs ds → DpAll K H' vs ds
  | [], _, .nil => .nil
  | d :: ds, _, .cons h a => .cons (dp_same e d h) (dpa_same e ds a)
end
theorem dpa_len {K : PySem.W.Frag} {H : Hp} : ∀ {vs : List V} {ds : List PyData}, DpAll K H vs ds → vs.length = ds.length
  | _, _, .nil => rfl
  | _, _, .cons _ a => by rw [List.length_cons, List.length_cons, dpa_len a]
theorem dpa_at {K : PySem.W.Frag} {H : Hp} : ∀ {vs : List V} {ds : List PyData} {i : Nat} {v : V}, DpAll K H vs ds → vs[i]? = some v → ∃ d, ds[i]? = some d ∧ Dp K H v d
  | _, _, _, _, .nil, h => by simp at h
  | _, _, 0, _, .cons h _, e => ⟨_, rfl, by have := Option.some.inj e; subst this; exact h⟩
  | _, _, i + 1, _, .cons _ a, e => dpa_at (i := i) a (by simpa using e)
theorem dpa_app {K : PySem.W.Frag} {H : Hp} : ∀ {vs ws : List V} {ds es : List PyData}, DpAll K H vs ds → DpAll K H ws es → DpAll K H (vs ++ ws) (ds ++ es)
  | _, _, _, _, .nil, b => b
  | _, _, _, _, .cons h a, b => .cons h (dpa_app a b)
theorem eqv_self {d : PyData} (h : SeqAt.shaped d = true) : PyData.eqv d d = true := SeqAt.eqv_refl d (SeqAt.canLay_of_shaped h)
/-! data that may be compared -/
theorem layAll : ∀ {ds : List PyData}, (∀ d ∈ ds, d.canLay0 = true) → PyData.canLayAll0 ds = true
  | [], _ => rfl
  | d :: ds, h => by
    rw [PyData.canLayAll0, h d List.mem_cons_self, layAll fun e he => h e (List.mem_cons_of_mem _ he)]; rfl
theorem depAll {n : Nat} : ∀ {ds : List PyData}, (∀ d ∈ ds, d.depth ≤ n) → PyData.depthAll ds ≤ n
  | [], _ => Nat.zero_le _
  | d :: ds, h => by
    have h1 := h d List.mem_cons_self
    have h2 := depAll (ds := ds) fun e he => h e (List.mem_cons_of_mem _ he)
    simp only [PyData.depthAll]
    omega
/-- plain data of at most this depth -/
def Flat (n : Nat) (d : PyData) : Prop := d.canLay0 = true ∧ d.depth ≤ n
theorem flat_list {n : Nat} {ds : List PyData} (h : ∀ d ∈ ds, Flat n d) : Flat (n + 1) (.list ds) :=
  ⟨by rw [PyData.canLay0]; exact layAll fun d hd => (h d hd).1, by have := depAll (n := n) fun d hd => (h d hd).2; simp only [PyData.depth]; omega⟩
theorem flat_tup {n : Nat} {ds : List PyData} (h : ∀ d ∈ ds, Flat n d) : Flat (n + 1) (.tuple ds) :=
  ⟨by rw [PyData.canLay0]; exact layAll fun d hd => (h d hd).1, by have := depAll (n := n) fun d hd => (h d hd).2; simp only [PyData.depth]; omega⟩
theorem flat_int (n : Nat) (i : Int) : Flat n (.int i) := ⟨rfl, by simp [PyData.depth]⟩
theorem flat_str (n : Nat) (x : Str) (h : (PyData.str x).canLay0 = true := by decide +kernel) : Flat n (.str x) := ⟨h, by simp [PyData.depth]⟩
theorem flat_bl (n : Nat) (b : Bool) : Flat n (.bool b) := ⟨rfl, by simp [PyData.depth]⟩
theorem flat_non (n : Nat) : Flat n .none := ⟨rfl, by simp [PyData.depth]⟩
theorem Flat.mono {n m : Nat} {d : PyData} (h : Flat n d) (hm : n ≤ m) : Flat m d := ⟨h.1, Nat.le_trans h.2 hm⟩
theorem Flat.sh {n : Nat} {d : PyData} (h : Flat n d) (hn : n ≤ 64) : SeqAt.shaped d = true := by
  show (d.canLay0 && decide (d.depth ≤ 64)) = true
  rw [Bool.and_eq_true]
  exact ⟨h.1, decide_eq_true (Nat.le_trans h.2 hn)⟩
theorem tyx_t {K : PySem.W.Frag} {H : Hp} {a : Addr} {xs : List V} (h : SqT K H a xs) : TyX K H (.ref a) (.type "tuple") := by
  rcases h with (h | ⟨o, h⟩) | ⟨o, its, n, h, hc, _⟩
  · exact .base (.tup h)
  · exact .fTuple h
  · exact .kTuple h hc
theorem tyx_l {K : PySem.W.Frag} {H : Hp} {a : Addr} {xs : List V} (h : SqL K H a xs) : TyX K H (.ref a) (.type "list") := by
  rcases h with (h | ⟨o, h⟩) | ⟨o, its, n, h, hc, _⟩
  · exact .base (.lst h)
  · exact .base (.frz h)
  · exact .kList h hc
theorem same_both {G H : Hp} {t : Addr} {x : HO} (e : Same G H) : Same (upd G t x) (upd H t x) := fun b o h => by
  by_cases hb : b = t
  · subst hb; rw [upd_same] at h ⊢; exact h
  · rw [upd_ne hb] at h ⊢; exact e b o h
theorem set_self {α : Type} : ∀ {l : List α} {i : Nat} {x : α}, l[i]? = some x → l.set i x = l
  | [], i, x, h => by simp at h
  | a :: l, 0, x, h => by
    have e : a = x := Option.some.inj h
    subst e
    rfl
  | a :: l, i + 1, x, h => by
    show a :: l.set i x = a :: l
    rw [set_self (by simpa using h)]
theorem ixn {n j : Nat} {i : Int} (hi : i = (j : Int)) (hj : j < n) : ixN n i = some j := by
  unfold ixN
  rw [if_pos (by omega), if_pos (by omega)]
  congr 1
  omega
/-! shifts and masks in place -/
section
variable {X : Cx}
theorem ip_shr : PIp X .RShift (fun x y H Q => ∃ (i : Int) (k : Nat), x = .int i ∧ y = .int (k : Int) ∧ Q (.int (i / 2 ^ k)) H) := by
  intro pins s σ H x y v u Q I r1 r2 h
  obtain ⟨i, k, e1, e2, q⟩ := h
  subst e1; subst e2
  obtain ⟨t, rfl⟩ := r1
  obtain ⟨t', rfl⟩ := r2
  refine irshift_int (Int.natCast_nonneg k) ⟨.int _, H, I.tok _, ⟨_, rfl⟩, ?_⟩
  rw [Int.toNat_natCast, Int.fdiv_eq_ediv_of_nonneg _ (Int.le_of_lt (Int.pow_pos (by decide)))]
  exact q
theorem ip_or : PIp X .BitOr (fun x y H Q => ∃ (r a : Int) (k : Nat), x = .int r ∧ y = .int (a * 2 ^ k) ∧ (0 ≤ a ∧ 0 ≤ r ∧ r < 2 ^ k) ∧ Q (.int (r + a * 2 ^ k)) H) := by
  intro pins s σ H x y v u Q I r1 r2 h
  obtain ⟨r, a, k, e1, e2, ⟨h0, h1, h2⟩, q⟩ := h
  subst e1; subst e2
  obtain ⟨t, rfl⟩ := r1
  obtain ⟨t', rfl⟩ := r2
  refine ior_int ⟨.int _, H, I.tok _, ⟨_, rfl⟩, ?_⟩
  have e : Builtin.bitOr r (a * 2 ^ k) = r + a * 2 ^ k := by
    have hp : (0 : Int) ≤ a * 2 ^ k := Int.mul_nonneg h0 (Int.le_of_lt (Int.pow_pos (by decide)))
    rw [bitOr_nn h1 hp, Nat.or_comm, ← bitOr_nn hp h1, or_low h0 h1 h2, Int.add_comm]
  rw [e]
  exact q
end
theorem bits_small : ∀ n : Nat, n < 128 → Builtin.Int.intBits (n : Int) ≤ 8 := by decide +kernel
/-- isinstance(e, c) of the error that a suite holds, its class known by the reading -/
theorem call_isE1 {X : Cx} {a D : Addr} {oe : Obj} {cls : Value} {d : Option Addr} {pn : List (Addr × Obj)} (C : ExcC X.K D) (hz : Zc cls d oe) (hf : ∃ vs, oe.data = .fields vs) :
    CallR (X.suite a ((a, oe) :: pn)) (.builtin "isinstance") (fun xs H Q => cls = .ref D ∧ d = none ∧ rIsE X.K D a xs H Q) := fun pins s σ H xs us Q I r h => by
  obtain ⟨h1, h2, h⟩ := h
  subst h1
  subst h2
  exact call_isE C hz hf pins s σ H xs us Q I r h
/-! slices -/
theorem sIx_le {n d : Nat} {i : Nat} : HT.sIx n d (some (i : Int)) = min i n := HT.sIx_nat n d i
theorem cut0n (xs : List V) (j : Nat) : cutV xs none (some (j : Int)) = xs.take j := by
  unfold cutV
  rw [sIx_le, HT.sIx_none, List.drop_zero, Nat.sub_zero]
  exact (List.take_eq_take_min).symm
theorem cutnn (xs : List V) (i j : Nat) : cutV xs (some (i : Int)) (some (j : Int)) = (xs.drop i).take (j - i) := by
  unfold cutV
  rw [sIx_le, sIx_le]
  by_cases hi : i ≤ xs.length
  · rw [Nat.min_eq_left hi]
    by_cases hj : j ≤ xs.length
    · rw [Nat.min_eq_left hj]
    · rw [Nat.min_eq_right (by omega), List.take_of_length_le (by rw [List.length_drop]; omega), List.take_of_length_le (by rw [List.length_drop]; omega)]
  · have e : min i xs.length = xs.length := by omega
    rw [e, List.drop_of_length_le (Nat.le_refl _), List.drop_of_length_le (show xs.length ≤ i by omega), List.take_nil, List.take_nil]
theorem cut_ints (ns : List Int) {i j : Nat} {a b : Int} (ha : a = i) (hb : b = j) : cutV (ns.map V.int) (some a) (some b) = ((ns.drop i).take (j - i)).map V.int := by
  rw [ha, hb, cutnn, ← List.map_drop, ← List.map_take]
theorem rep_ints (ns : List Int) (k : Nat) : (List.replicate k (ns.map V.int)).flatten = (List.replicate k ns).flatten.map V.int := by
  rw [List.map_flatten, List.map_replicate]
/-- [e for x in a slice], e changes nothing -/
theorem lc_cut {K : PySem.W.Frag} {wi : TI} {te : TE} {s : Nat} {σ : L2.St} {H : Hp} {Q : VK} (xs : List V) (f : V → V)
    (hwi : ∀ R : It → Hp → Prop, (∀ p, H p = none → R (Itl K p) (upd H p (.lst xs))) → wi σ H R) (hlen : xs.length ≤ 90000)
    (hw : ∀ x, wipe ((wipe σ [s]).set s (some x)) [s] = wipe σ [s])
    (he : ∀ (i : Nat) (x : V) (G : Hp) (Q' : VK), xs[i]? = some x → Same H G → Q' (f x) G → te ((wipe σ [s]).set s (some x)) G Q')
    (k : ∀ D H', H D = none → Same H H' → H' D = some (.lst (xs.map f)) → Q (.ref D) H') : tLc wi (gName s) tYes te [s] σ H Q := by
  refine hwi _ fun p hp D hD => ?_
  have nD : D ≠ p := fun z => by rw [z, upd_same] at hD; cases hD
  have hD0 : H D = none := by rw [upd_ne nD] at hD; exact hD
  refine lc_list (K := K) (a := p) (xs := xs) (fun i H' => Same H H' ∧ H' p = some (.lst xs) ∧ H' D = some (.lst ((xs.take i).map f)))
    ⟨(same_upd hp).trans (same_upd hD), by rw [upd_ne nD.symm, upd_same], by rw [upd_same]; rfl⟩ (fun i H' _ h => sql h.2.1) (fun i x G hx hG => ?_) (fun G hG => ?_)
  · refine ⟨hw x, ?_⟩
    refine he i x G _ hx hG.1 ⟨_, hG.2.2, szl (by rw [List.length_map, List.length_take]; omega), same_put hG.1 hD0, by rw [upd_ne nD.symm]; exact hG.2.1, ?_⟩
    rw [upd_same, take_more hx, List.map_append]
    rfl
  · refine k D G hD0 hG.1 ?_
    rw [List.take_length] at hG
    exact hG.2.2
/-- lists of ints as data -/
theorem dpa_ints {K : PySem.W.Frag} {H : Hp} : ∀ ns : List Int, DpAll K H (ns.map V.int) (ns.map PyData.int)
  | [] => .nil
  | n :: ns => .cons (.int n) (dpa_ints ns)
theorem dp_ints {K : PySem.W.Frag} {H : Hp} {a : Addr} {ns : List Int} (h : SqL K H a (ns.map V.int)) : Dp K H (.ref a) (.list (ns.map PyData.int)) := .lst h (dpa_ints ns)
theorem flat_ints (ns : List Int) : Flat 1 (.list (ns.map PyData.int)) := flat_list (n := 0) fun d hd => by
  obtain ⟨i, _, rfl⟩ := List.mem_map.mp hd
  exact flat_int _ _
theorem flat_tints (ns : List Int) : Flat 1 (.tuple (ns.map PyData.int)) := flat_tup (n := 0) fun d hd => by
  obtain ⟨i, _, rfl⟩ := List.mem_map.mp hd
  exact flat_int _ _
theorem eqvAll_ints : ∀ xs ys : List Int, PyData.eqvAll (xs.map .int) (ys.map .int) = decide (xs = ys)
  | [], [] => rfl
  | [], _ :: _ => rfl
  | _ :: _, [] => rfl
  | x :: xs, y :: ys => by
    show ((x == y) && PyData.eqvAll (xs.map .int) (ys.map .int)) = _
    rw [eqvAll_ints xs ys, Bool.eq_iff_iff]
    simp
theorem eqv_ints (xs ys : List Int) : PyData.eqv (.list (xs.map .int)) (.list (ys.map .int)) = decide (xs = ys) := eqvAll_ints xs ys
theorem eqv_tints (xs ys : List Int) : PyData.eqv (.tuple (xs.map .int)) (.tuple (ys.map .int)) = decide (xs = ys) := eqvAll_ints xs ys
/-- a def with defaults that lets nothing out -/
theorem okD {P : Program} {w : World} {K : PySem.W.Frag} {mg : Str → Option Value} {base : Heap} {x qual : Str} {params : Arguments} {body : List Stmt} {scope : Scope} {dvs : List V} {kws : List (Str × V)} {f : Addr} {fd : FuncData} {N ps : List Str} {k : Nat} {sp : Sp}
    (F : FunD K x qual params body scope dvs kws f fd) (S : FnScope N ps scope) (len : ∀ vs H Q E, sp vs H Q E → vs.length = ps.length)
    (hb : ∀ (cdv : Value) (A : Around) (outer : List Env) (s : Shared) (H : Hp) (vs : List V) (Q : VK) (E : XK), Room k (A.deeper (envOfC qual scope s.heap.objs.size f cdv)) → sp vs H Q E →
      ∃ t, PSs (cxOf CX0 P w K mg base N qual scope f cdv A outer s H E).nox body t ∧ t { nx := fun _ H' => Q .non H', rt := Q } (start N vs) H) : FnOk P w K mg base CX0 (k + 1) f fd ps sp :=
  F.ok S len fun cdv A outer s H vs Q E hr h => by
    obtain ⟨t, h1, q⟩ := hb cdv A outer s H vs Q E hr h
    exact ⟨t, h1.nox, q⟩
/-! what an expression gives, whatever stands besides -/
def EI (te : TE) (σ : L2.St) (H : Hp) (v : V) : Prop := ∀ G, Same H G → ∀ Q : VK, Q v G → te σ G Q
def EA (ta : TA) (σ : L2.St) (H : Hp) (vs : List V) : Prop := ∀ G, Same H G → ∀ Q : List V → Hp → Prop, Q vs G → ta σ G Q
/-- a list, new or old -/
def EL (te : TE) (σ : L2.St) (H : Hp) (xs : List V) : Prop := ∀ G, Same H G → ∀ Q : VK, (∀ p G', Same G G' → G' p = some (.lst xs) → Q (.ref p) G') → te σ G Q
section
variable {K : PySem.W.Frag} {σ : L2.St} {H : Hp} {ta tb te : TE} {x y z v : V} {xs ys : List V}
theorem ei_var {i : Nat} (h : σ[i]? = some (some v)) : EI (tVar i) σ H v := fun _ _ _ q => ⟨v, h, q⟩
theorem ei_c : EI (tC v) σ H v := fun _ _ _ q => q
theorem ei_op {r : R2} (ha : EI ta σ H x) (hb : EI tb σ H y) (hr : ∀ G, Same H G → ∀ Q : VK, Q z G → r x y G Q) : EI (tOp r ta tb) σ H z := fun G s Q q => ha G s _ (hb G s _ (hr G s Q q))
theorem ei_i0 {g : Int → Int → V} {i j : Int} (ha : EI ta σ H (.int i)) (hb : EI tb σ H (.int j)) : EI (tOp (rI0 g) ta tb) σ H (g i j) := ei_op ha hb fun _ _ _ q => ⟨i, j, rfl, rfl, q⟩
theorem ei_ic {C : Int → Int → Prop} {g : Int → Int → V} {i j : Int} (ha : EI ta σ H (.int i)) (hb : EI tb σ H (.int j)) (hc : C i j) : EI (tOp (rI C g) ta tb) σ H (g i j) := ei_op ha hb fun _ _ _ q => ⟨i, j, rfl, rfl, hc, q⟩
theorem ea_nil : EA tNil σ H [] := fun _ _ _ q => q
theorem ea_cons {tr : TA} {vs : List V} (h : EI ta σ H x) (g : EA tr σ H vs) : EA (tCons ta tr) σ H (x :: vs) := fun G s _ q => h G s _ (g G s _ q)
theorem ei_cb {r : List V → Hp → VK → Prop} {tr : TA} {vs : List V} (ha : EA tr σ H vs) (hr : ∀ G, Same H G → ∀ Q : VK, Q z G → r vs G Q) : EI (tCB r tr) σ H z := fun G s Q q => ha G s _ (hr G s Q q)
/-- len of a list, list(..) of a list or a tuple, as they are read -/
def rLen (K : PySem.W.Frag) : List V → Hp → VK → Prop := fun xs H Q => ∃ p ys, xs = [.ref p] ∧ (SqL K H p ys ∨ SqT K H p ys) ∧ Q (.int ys.length) H
def rLst (K : PySem.W.Frag) : List V → Hp → VK → Prop := fun xs H Q => ∃ p ys, xs = [.ref p] ∧ (SqL K H p ys ∨ SqT K H p ys) ∧ ∀ l, H l = none → Q (.ref l) (upd H l (.lst ys))
def rTup (K : PySem.W.Frag) : List V → Hp → VK → Prop := fun xs H Q => ∃ p ys, xs = [.ref p] ∧ ((SqL K H p ys ∧ ∀ l, H l = none → Q (.ref l) (upd H l (.tup ys))) ∨ (SqT K H p ys ∧ Q (.ref p) H))
theorem callK_tuple {X : Cx} (h : X.K = K) : CallR X (.type "tuple") (rTup K) := by subst h; exact call_tuple_of
theorem callK_list {X : Cx} (h : X.K = K) : CallR X (.type "list") (rLst K) := by subst h; exact call_list_of
theorem opK_catA {X : Cx} (h : X.K = K) : OpR X (binaryOp .Add) (rCatA K) := by subst h; exact op_catA
theorem ixK_list {X : Cx} (h : X.K = K) : IxR X (rIxL K) := by subst h; exact ix_list
theorem ixK_tup {X : Cx} (h : X.K = K) : IxR X (rIxT K) := by subst h; exact ix_tup
theorem pe_fldK {X : Cx} {e : Expr} {f : Str} {pos : Pos} {ta : TE} (h : X.K = K) (he : PE X e ta) (hb : attributeBase e f X.env (eval e X.env) = eval e X.env) : PE X (.Attribute e f pos) (tFld K ta f) := by subst h; exact pe_fld he hb
theorem callK_len {X : Cx} (h : X.K = K) : CallR X (.builtin "len") (rLen K) := by subst h; exact call_len_seq
theorem ei_lenL {i : Nat} {p : Addr} (h : σ[i]? = some (some (.ref p))) (e : SqL K H p xs) : EI (tCB (rLen K) (tCons (tVar i) tNil)) σ H (.int (xs.length : Int)) := ei_cb (ea_cons (ei_var h) ea_nil) fun _ s _ q => ⟨p, xs, rfl, .inl (s.seq e), q⟩
theorem ei_lenT {i : Nat} {p : Addr} (h : σ[i]? = some (some (.ref p))) (e : SqT K H p xs) : EI (tCB (rLen K) (tCons (tVar i) tNil)) σ H (.int (xs.length : Int)) := ei_cb (ea_cons (ei_var h) ea_nil) fun _ s _ q => ⟨p, xs, rfl, .inr (sqt_same s e), q⟩
theorem ei_fld {i : Nat} {p C dx : Addr} {fs : List (Str × V)} {f : Str} (h : σ[i]? = some (some (.ref p))) (hp : H p = some (.ins C dx fs)) (c : Cls K C) (n : NoAttr K C f) (l : fs.lookup f = some v) : EI (tFld K (tVar i) f) σ H v := fun _ s _ q => ⟨.ref p, h, p, C, dx, fs, v, rfl, s _ _ hp, c, n, l, q⟩
theorem ei_din {td : TE} {d : Addr} {kvs : List (Key × V)} {k : Key} (hy : EI te σ H (kV k)) (hd : EI td σ H (.ref d)) (e : H d = some (.dK kvs)) : EI (tDIn te td) σ H (.bl (valV kvs k).isSome) := fun G s _ q => hy G s _ (hd G s _ ⟨d, _, rfl, DGet.k (s _ _ e), q⟩)
theorem ei_dnotin {td : TE} {d : Addr} {kvs : List (Key × V)} {k : Key} (hy : EI te σ H (kV k)) (hd : EI td σ H (.ref d)) (e : H d = some (.dK kvs)) : EI (tDNotIn te td) σ H (.bl (!(valV kvs k).isSome)) := fun G s _ q => hy G s _ (hd G s _ ⟨d, _, rfl, DGet.k (s _ _ e), q⟩)
theorem ei_dget {td : TE} {d : Addr} {kvs : List (Key × V)} {k : Key} (hy : EI te σ H (kV k)) (hd : EI td σ H (.ref d)) (e : H d = some (.dK kvs)) (hv : valV kvs k = some v) : EI (tDGet td te) σ H v := fun G s _ q => hd G s _ (hy G s _ ⟨d, v, rfl, by rw [← hv]; exact DGet.k (s _ _ e), q⟩)
theorem ei_ixL {p : Addr} {j : Int} (ha : EI ta σ H (.ref p)) (hi : EI tb σ H (.int j)) (e : SqL K H p xs) (h : atI xs j = some v) : EI (tOp (rIxL K) ta tb) σ H v := ei_op ha hi fun _ s _ q => ⟨p, xs, j, v, rfl, rfl, s.seq e, h, q⟩
theorem ei_ixT {p : Addr} {j : Int} (ha : EI ta σ H (.ref p)) (hi : EI tb σ H (.int j)) (e : SqT K H p xs) (h : atI xs j = some v) : EI (tOp (rIxT K) ta tb) σ H v := ei_op ha hi fun _ s _ q => ⟨p, xs, j, v, rfl, rfl, sqt_same s e, h, q⟩
theorem ei_eq (ha : EI ta σ H x) (hb : EI tb σ H y) (h : scal x y = true) : EI (tOp rEq ta tb) σ H (.bl (decide (x = y))) := ei_op ha hb fun _ _ _ q => ⟨h, q⟩
theorem ei_ne (ha : EI ta σ H x) (hb : EI tb σ H y) (h : scal x y = true) : EI (tOp rNe ta tb) σ H (.bl (!decide (x = y))) := ei_op ha hb fun _ _ _ q => ⟨h, q⟩
/-- a test by its value -/
theorem tt_use {b : Bool} {Q : Bool → Hp → Prop} (h : EI te σ H (.bl b)) (k : Q b H) : tTest te σ H Q := h H (Same.refl _) _ ⟨b, rfl, k⟩
theorem tb_use {b : Bool} {Q : Bool → Hp → Prop} (h : EI te σ H (.bl b)) (k : Q b H) : tB te σ H Q := h H (Same.refl _) _ ⟨b, rfl, k⟩
theorem el_var {i : Nat} {p : Addr} (h : σ[i]? = some (some (.ref p))) (e : H p = some (.lst xs)) : EL (tVar i) σ H xs := fun G s _ q => ⟨.ref p, h, q p G (Same.refl _) (s _ _ e)⟩
/-- a new list -/
def EN (te : TE) (σ : L2.St) (H : Hp) (xs : List V) : Prop := ∀ G, Same H G → ∀ Q : VK, (∀ p G', G p = none → Same G G' → G' p = some (.lst xs) → Q (.ref p) G') → te σ G Q
theorem EN.el (h : EN te σ H xs) : EL te σ H xs := fun G s Q q => h G s Q fun p G' _ => q p G'
theorem en_lst {tr : TA} {vs : List V} (ha : EA tr σ H vs) (hl : vs.length ≤ 90000) : EN (tLst tr) σ H vs := fun G s _ q => ha G s _ ⟨sz (by omega), fun p hp => q p _ hp (same_upd hp) upd_same⟩
theorem en_cat (ha : EL ta σ H xs) (hb : EL tb σ H ys) (hl : xs.length + ys.length ≤ 90000) : EN (tOp rCat ta tb) σ H (xs ++ ys) := fun G s _ q =>
  ha G s _ fun p G1 s1 e1 => hb G1 (s.trans s1) _ fun p2 G2 s2 e2 => ⟨p, p2, xs, ys, rfl, rfl, s2 _ _ e1, e2, sz (by omega), fun p3 h3 => q p3 _ ((s1.trans s2).free h3) ((s1.trans s2).trans (same_upd h3)) upd_same⟩
theorem en_rep {k : Int} (ha : EL ta σ H xs) (hb : EI tb σ H (.int k)) (h1 : -1000000 ≤ k) (h2 : k ≤ 1000000) (hl : xs.length * k.toNat ≤ 90000) : EN (tOp rRep ta tb) σ H (List.replicate k.toNat xs).flatten := fun G s _ q =>
  ha G s _ fun p G1 s1 e1 => hb G1 (s.trans s1) _ ⟨p, k, xs, rfl, rfl, e1, by omega, by omega, sz (by omega), fun p3 h3 => q p3 _ (s1.free h3) (s1.trans (same_upd h3)) upd_same⟩
theorem el_lst {tr : TA} {vs : List V} (ha : EA tr σ H vs) (hl : vs.length ≤ 90000) : EL (tLst tr) σ H vs := (en_lst ha hl).el
theorem el_cat (ha : EL ta σ H xs) (hb : EL tb σ H ys) (hl : xs.length + ys.length ≤ 90000) : EL (tOp rCat ta tb) σ H (xs ++ ys) := (en_cat ha hb hl).el
theorem el_rep {k : Int} (ha : EL ta σ H xs) (hb : EI tb σ H (.int k)) (h1 : -1000000 ≤ k) (h2 : k ≤ 1000000) (hl : xs.length * k.toNat ≤ 90000) : EL (tOp rRep ta tb) σ H (List.replicate k.toNat xs).flatten := (en_rep ha hb h1 h2 hl).el
theorem el_cb {r : List V → Hp → VK → Prop} {tr : TA} {vs : List V} (ha : EA tr σ H vs) (hr : ∀ G, Same H G → ∀ Q : VK, (∀ p G', Same G G' → G' p = some (.lst xs) → Q (.ref p) G') → r vs G Q) : EL (tCB r tr) σ H xs := fun G s Q q => ha G s _ (hr G s Q q)
theorem el_call {sp : Sp} {dvs : List V} {E : XK} {tr : TA} {vs : List V} (ha : EA tr σ H vs) (hr : ∀ G, Same H G → ∀ Q : VK, (∀ p G', Same G G' → G' p = some (.lst xs) → Q (.ref p) G') → sp (vs ++ dvs) G Q E) : EL (tCall sp dvs E tr) σ H xs := fun G s Q q => ha G s _ (hr G s Q q)
theorem el_listL {i : Nat} {p : Addr} (h : σ[i]? = some (some (.ref p))) (e : SqL K H p xs) : EL (tCB (rLst K) (tCons (tVar i) tNil)) σ H xs := el_cb (ea_cons (ei_var h) ea_nil) fun _ s _ q => ⟨p, xs, rfl, .inl (s.seq e), fun l hl => q l _ (same_upd hl) upd_same⟩
theorem el_listT {i : Nat} {p : Addr} (h : σ[i]? = some (some (.ref p))) (e : SqT K H p xs) : EL (tCB (rLst K) (tCons (tVar i) tNil)) σ H xs := el_cb (ea_cons (ei_var h) ea_nil) fun _ s _ q => ⟨p, xs, rfl, .inr (sqt_same s e), fun l hl => q l _ (same_upd hl) upd_same⟩
/-- x = an expression that gives a list -/
theorem EL.use {Q : VK} (h : EL te σ H xs) (k : ∀ p H', Same H H' → H' p = some (.lst xs) → Q (.ref p) H') : te σ H Q := h H (Same.refl _) Q k
theorem EN.use {Q : VK} (h : EN te σ H xs) (k : ∀ p H', H p = none → Same H H' → H' p = some (.lst xs) → Q (.ref p) H') : te σ H Q := h H (Same.refl _) Q k
theorem EI.use {Q : VK} (h : EI te σ H v) (k : Q v H) : te σ H Q := h H (Same.refl _) Q k
end
/-- defaults: what is bound where keywords give the rest -/
theorem kb_one {K : PySem.W.Frag} {x qual : Str} {params : Arguments} {body : List Stmt} {scope : Scope} {dvs : List V} {f : Addr} {fd : FuncData} {ps : List Str} (F : FunD K x qual params body scope dvs [] f fd) (n : Nat) (ks : List Str) (hd : dvs ≠ [])
    (h : ∀ (T : Addr) (kV doc pm : Value) (an : Option Addr) (cdv ct : Value) (us ws its : List Value), us.length = n → ws.length = ks.length → its.length = dvs.length →
      ∃ k, bindArgs (PySem.W.fnOf x qual params body scope (.ref T) kV doc pm an cdv ct) ⟨us, ks.zip ws⟩ = seqItems? (.ref T) >>= k ∧ k (some its.toArray) = pure (ps.zip (us ++ ws))) :
    KBn K fd ps n ks (fun us ws => us ++ ws) (fun vs zs => vs ++ zs) := by
  obtain ⟨oc, od, dV, kV, doc, pm, an, cdv, ct, osl, rfl, lk, hcd, hD, hK⟩ := F.ex
  rcases hD with ⟨e, _⟩ | ⟨_, T, o, its, m, rfl, lT, oT, rT⟩
  · exact absurd e hd
  · refine ⟨fun s us ws X h1 h2 => BindsTo.of_looks fun M => ?_, fun r1 r2 => r1.append r2⟩
    obtain ⟨k, e1, e2⟩ := h T kV doc pm an cdv ct us ws its h1 h2 rT.length.symm
    rw [e1]
    exact looks_items X lT oT (.of_pure e2)
theorem andV_use {ta tb : TE} {σ : L2.St} {H : Hp} {Q : VK} {x y : Bool} (h1 : EI ta σ H (.bl x)) (h2 : x = true → ∀ Q' : VK, (∀ H', Same H H' → Q' (.bl y) H') → tb σ H Q') (k : ∀ H', Same H H' → Q (.bl (x && y)) H') : tAndV ta tb σ H Q := by
  refine h1 H (Same.refl _) _ ⟨x, rfl, ?_⟩
  cases x with
  | true => exact (if_pos rfl).mpr (h2 rfl _ k)
  | false => exact (if_neg Bool.false_ne_true).mpr (k H (Same.refl _))
/-- what is locked and let go stands as it stood -/
theorem unlock {H H' : Hp} {d : Addr} {od : Obj} {u : HO} (e : H d = some u) (s : Same (upd H d (.frz od u)) H') : Same H (upd H' d u) := fun b o h => by
  by_cases hb : b = d
  · subst hb
    rw [upd_same, ← e]
    exact h
  · rw [upd_ne hb]
    exact s b o (by rw [upd_ne hb]; exact h)
theorem take_filter {α : Type} {l : List α} {i : Nat} {x : α} (f : α → Bool) (h : l[i]? = some x) : (l.take (i + 1)).filter f = (l.take i).filter f ++ if f x then [x] else [] := by
  rw [take_more h, List.filter_append]
  cases e : f x <;> simp [e]
/-- [e for k in d if t] over the keys of a dict, t and e change nothing -/
theorem lc_keys {td te : TE} {tt : TT} {s : Nat} {σ : L2.St} {H : Hp} {Q : VK} (d : Addr) (kvs : List (Key × V)) (f : Key → Bool) (g : Key → V) (e : H d = some (.dK kvs)) (hlen : kvs.length ≤ 90000)
    (htd : ∀ od, EI td σ (upd H d (.frz od (.dK kvs))) (.ref d))
    (hw : ∀ x, wipe ((wipe σ [s]).set s (some x)) [s] = wipe σ [s])
    (ht : ∀ (od : Obj) (i : Nat) (k : Key) (v : V) (G : Hp) (Q' : Bool → Hp → Prop), kvs[i]? = some (k, v) → Same (upd H d (.frz od (.dK kvs))) G → Q' (f k) G → tt ((wipe σ [s]).set s (some (kV k))) G Q')
    (he : ∀ (od : Obj) (i : Nat) (k : Key) (v : V) (G : Hp) (Q' : VK), kvs[i]? = some (k, v) → Same (upd H d (.frz od (.dK kvs))) G → Q' (g k) G → te ((wipe σ [s]).set s (some (kV k))) G Q')
    (k : ∀ D H', H D = none → Same H H' → H' D = some (.lst ((kvs.filter fun kv => f kv.1).map fun kv => g kv.1)) → Q (.ref D) H') : tLockE (tLc (iKeys td) (gName s) tt te [s]) σ H Q := by
  refine ⟨d, _, e, trivial, fun od => htd od _ (Same.refl _) _ ⟨d, od, rfl, .inl ⟨kvs, upd_same, fun D hD => ?_⟩⟩⟩
  have nD : D ≠ d := fun z => by rw [z, upd_same] at hD; cases hD
  have hD0 : H D = none := by rw [upd_ne nD] at hD; exact hD
  refine lc_it walk_keys (fun i G => Same (upd H d (.frz od (.dK kvs))) G ∧ G D = some (.lst (((kvs.take i).filter fun kv => f kv.1).map fun kv => g kv.1)))
    ⟨same_upd hD, upd_same⟩ (fun i G _ h => h.1 _ _ upd_same) (fun i x G G' hi hG hy => ?_) (fun G hG => ?_)
  · obtain ⟨rfl, key, v, hkv, rfl⟩ := hy
    have hfl : ((kvs.take i).filter fun kv => f kv.1).length ≤ 90000 := Nat.le_trans (List.length_filter_le _ _) (by rw [List.length_take]; omega)
    refine ⟨hw _, ht od i key v _ _ hkv hG.1 ?_⟩
    have hts := take_filter (fun kv : Key × V => f kv.1) hkv
    cases hf : f key with
    | true =>
      refine (if_pos rfl).mpr (he od i key v _ _ hkv hG.1 ⟨_, hG.2, szl (by rw [List.length_map]; omega), same_put hG.1 hD, ?_⟩)
      rw [upd_same, hts, List.map_append]
      simp only [hf, if_true]
      rfl
    | false =>
      refine (if_neg Bool.false_ne_true).mpr ⟨hG.1, ?_⟩
      rw [hts]
      simp only [hf, Bool.false_eq_true, if_false, List.append_nil]
      exact hG.2
  · rw [List.take_length] at hG
    refine ⟨hG.1 _ _ upd_same, k D _ hD0 (unlock e hG.1) ?_⟩
    rw [upd_ne nD]
    exact hG.2
theorem put_fresh {kvs : List (Key × V)} {k : Key} {v : V} (h : ∀ kv ∈ kvs, kv.1 ≠ k) : putK kvs k v = kvs ++ [(k, v)] := by
  unfold putK
  rw [if_neg]
  intro z
  obtain ⟨kv, hm, hk⟩ := List.any_eq_true.mp z
  exact h kv hm (of_decide_eq_true hk)
theorem nd_ne {α β : Type} {l : List (α × β)} {i : Nat} {x : α × β} (nd : (l.map (·.1)).Nodup) (h : l[i]? = some x) : ∀ y ∈ l.take i, y.1 ≠ x.1 := fun y hy z => by
  obtain ⟨j, hj, rfl⟩ := List.getElem_of_mem hy
  rw [List.length_take] at hj
  rw [List.getElem_take] at z
  obtain ⟨hi, rfl⟩ := List.getElem?_eq_some_iff.mp h
  have e1 : (l.map (·.1))[j]? = some l[i].1 := by rw [List.getElem?_map, List.getElem?_eq_getElem (by omega), ← z]; rfl
  have e2 : (l.map (·.1))[i]? = some l[i].1 := by rw [List.getElem?_map, List.getElem?_eq_getElem hi]; rfl
  have := nd_ix nd e1 e2
  omega
/-- {k: e for k in d if t} over the keys of a dict -/
theorem dc_keys {td tv : TE} {tt : TT} {s : Nat} {σ : L2.St} {H : Hp} {Q : VK} (d : Addr) (kvs : List (Key × V)) (f : Key → Bool) (g : Key × V → V) (e : H d = some (.dK kvs)) (hlen : kvs.length ≤ 90000) (nd : (kvs.map (·.1)).Nodup)
    (htd : ∀ od, EI td σ (upd H d (.frz od (.dK kvs))) (.ref d))
    (hw : ∀ x, wipe ((wipe σ [s]).set s (some x)) [s] = wipe σ [s])
    (ht : ∀ (od : Obj) (i : Nat) (k : Key) (v : V) (G : Hp) (Q' : Bool → Hp → Prop), kvs[i]? = some (k, v) → Same (upd H d (.frz od (.dK kvs))) G → Q' (f k) G → tt ((wipe σ [s]).set s (some (kV k))) G Q')
    (he : ∀ (od : Obj) (i : Nat) (k : Key) (v : V) (G : Hp) (Q' : VK), kvs[i]? = some (k, v) → f k = true → Same (upd H d (.frz od (.dK kvs))) G → Q' (g (k, v)) G → tv ((wipe σ [s]).set s (some (kV k))) G Q')
    (hn : ∀ i, (wipe σ [s]).length = i → s < i)
    (k : ∀ D H', H D = none → Same H H' → H' D = some (.dK ((kvs.filter fun kv => f kv.1).map fun kv => (kv.1, g kv))) → Q (.ref D) H') : tLockE (tDc (iKeys td) (gName s) tt (tVar s) tv [s]) σ H Q := by
  have hs : s < (wipe σ [s]).length := hn _ rfl
  refine ⟨d, _, e, trivial, fun od => htd od _ (Same.refl _) _ ⟨d, od, rfl, .inl ⟨kvs, upd_same, fun D hD => ?_⟩⟩⟩
  have nD : D ≠ d := fun z => by rw [z, upd_same] at hD; cases hD
  have hD0 : H D = none := by rw [upd_ne nD] at hD; exact hD
  let Pv : Nat → Hp → Prop := fun i G => Same (upd H d (.frz od (.dK kvs))) G ∧ G D = some (.dK (((kvs.take i).filter fun kv => f kv.1).map fun kv => (kv.1, g kv)))
  have step : ∀ i x G G', i < kvs.length → Pv i G → (G' = G ∧ ∃ k v, kvs[i]? = some (k, v) ∧ x = kV k) → gName s x (wipe σ [s]) G' fun σ2 H2 => wipe σ2 [s] = wipe σ [s] ∧ tt σ2 H2 fun b H3 =>
      if b = true then tVar s σ2 H3 fun y H4 => tv σ2 H4 fun z H5 => ∃ kvs' k', y = kV k' ∧ H5 D = some (.dK kvs') ∧ kvs'.length < sizeLine ∧ Pv (i + 1) (upd H5 D (.dK (putK kvs' k' z))) else Pv (i + 1) H3 := fun i x G G' hi hG hy => by
    obtain ⟨rfl, key, v, hkv, rfl⟩ := hy
    have hfl : ((kvs.take i).filter fun kv => f kv.1).length ≤ 90000 := Nat.le_trans (List.length_filter_le _ _) (by rw [List.length_take]; omega)
    refine ⟨hw _, ht od i key v _ _ hkv hG.1 ?_⟩
    have hts := take_filter (fun kv : Key × V => f kv.1) hkv
    cases hf : f key with
    | true =>
      refine (if_pos rfl).mpr ⟨kV key, by rw [List.getElem?_set_self hs], he od i key v _ _ hkv hf hG.1 ⟨_, key, rfl, hG.2, szl (by rw [List.length_map]; omega), same_put hG.1 hD, ?_⟩⟩
      rw [upd_same, hts, List.map_append, put_fresh]
      · simp only [hf, if_true]
        rfl
      · intro kv hm
        obtain ⟨y, hy, rfl⟩ := List.mem_map.mp hm
        exact nd_ne nd hkv y (List.mem_filter.mp hy).1
    | false =>
      refine (if_neg Bool.false_ne_true).mpr ⟨hG.1, ?_⟩
      rw [hts]
      simp only [hf, Bool.false_eq_true, if_false, List.append_nil]
      exact hG.2
  refine ⟨fun i m G => m = kvs.length - i ∧ i ≤ kvs.length ∧ Pv i G, ⟨kvs.length, by simp, Nat.zero_le _, same_upd hD, upd_same⟩, ?_⟩
  rintro i m G ⟨rfl, hi, hP⟩
  by_cases hlt : i < kvs.length
  · exact .inr ⟨⟨hP.1 _ _ upd_same, hlt⟩, Pv (i + 1), fun G' p' => ⟨kvs.length - (i + 1), by omega, rfl, hlt, p'⟩, fun x G' y => step i x G G' hlt hP y⟩
  · have ei : i = kvs.length := by omega
    subst ei
    obtain ⟨h1, h2⟩ := hP
    rw [List.take_length] at h2
    refine .inl ⟨⟨h1 _ _ upd_same, Nat.le_refl _⟩, h1 _ _ upd_same, k D _ hD0 (unlock e h1) ?_⟩
    rw [upd_ne nD]
    exact h2
end My
local macro_rules | `(tactic| walk_at "go") => `(tactic| try dsimp only [L2.gName, L2.tSeq, L2.tAsg, L2.tNext, L2.tDrop])
namespace My
open PySem PySem.Spec PyProof.Rows L2
def topS (i : Nat) : Stmt := PySem.Challenge.pw_majordomo_k29_names_and_texts.main.body.getD i (.Pass ⟨0, 0, 0, 0⟩)
abbrev s_has_plain_characters : Stmt := (topS 5)
theorem sc_has_plain_characters : FnScope ["text", "character", "code"] ["text"] (defScope s_has_plain_characters) := ⟨rfl, rfl, rfl, by decide +kernel, rfl, by decide +kernel, by decide +kernel⟩
abbrev s_is_integer_within : Stmt := (topS 6)
theorem sc_is_integer_within : FnScope ["number", "low", "high"] ["number", "low", "high"] (defScope s_is_integer_within) := ⟨rfl, rfl, rfl, by decide +kernel, rfl, by decide +kernel, by decide +kernel⟩
abbrev s_is_plain_name : Stmt := (topS 12)
theorem sc_is_plain_name : FnScope ["name", "character"] ["name"] (defScope s_is_plain_name) := ⟨rfl, rfl, rfl, by decide +kernel, rfl, by decide +kernel, by decide +kernel⟩
abbrev s_is_slot_name : Stmt := (topS 13)
theorem sc_is_slot_name : FnScope ["name"] ["name"] (defScope s_is_slot_name) := ⟨rfl, rfl, rfl, by decide +kernel, rfl, by decide +kernel, by decide +kernel⟩
abbrev s_is_text : Stmt := (topS 14)
theorem sc_is_text : FnScope ["text"] ["text"] (defScope s_is_text) := ⟨rfl, rfl, rfl, by decide +kernel, rfl, by decide +kernel, by decide +kernel⟩
abbrev s_is_count : Stmt := (topS 15)
theorem sc_is_count : FnScope ["number"] ["number"] (defScope s_is_count) := ⟨rfl, rfl, rfl, by decide +kernel, rfl, by decide +kernel, by decide +kernel⟩
abbrev s_is_zone : Stmt := (topS 16)
theorem sc_is_zone : FnScope ["zone"] ["zone"] (defScope s_is_zone) := ⟨rfl, rfl, rfl, by decide +kernel, rfl, by decide +kernel, by decide +kernel⟩
abbrev s_slot_name : Stmt := (topS 17)
theorem sc_slot_name : FnScope ["name", "number"] ["name", "number"] (defScope s_slot_name) := ⟨rfl, rfl, rfl, by decide +kernel, rfl, by decide +kernel, by decide +kernel⟩
abbrev s_split_slot : Stmt := (topS 18)
theorem sc_split_slot : FnScope ["slot"] ["slot"] (defScope s_split_slot) := ⟨rfl, rfl, rfl, by decide +kernel, rfl, by decide +kernel, by decide +kernel⟩
abbrev s__law_is_integer : Stmt := (topS 20)
theorem sc__law_is_integer : FnScope ["actual"] ["actual"] (defScope s__law_is_integer) := ⟨rfl, rfl, rfl, by decide +kernel, rfl, by decide +kernel, by decide +kernel⟩
abbrev s__law_draws : Stmt := (topS 21)
theorem sc__law_draws : FnScope ["script", "many", "draws", "mixed", "k", "cell", "rest", "turn"] ["script", "many"] (defScope s__law_draws) := ⟨rfl, rfl, rfl, by decide +kernel, rfl, by decide +kernel, by decide +kernel⟩
abbrev s__law_is_name : Stmt := (topS 22)
theorem sc__law_is_name : FnScope ["word", "char"] ["word"] (defScope s__law_is_name) := ⟨rfl, rfl, rfl, by decide +kernel, rfl, by decide +kernel, by decide +kernel⟩
abbrev s__law_is_slot : Stmt := (topS 23)
theorem sc__law_is_slot : FnScope ["word"] ["word"] (defScope s__law_is_slot) := ⟨rfl, rfl, rfl, by decide +kernel, rfl, by decide +kernel, by decide +kernel⟩
abbrev s__law_is_text : Stmt := (topS 24)
theorem sc__law_is_text : FnScope ["word", "char"] ["word"] (defScope s__law_is_text) := ⟨rfl, rfl, rfl, by decide +kernel, rfl, by decide +kernel, by decide +kernel⟩
abbrev s__law_word : Stmt := (topS 25)
theorem sc__law_word : FnScope ["draws", "chars", "size", "word", "at", "k"] ["draws"] (defScope s__law_word) := ⟨rfl, rfl, rfl, by decide +kernel, rfl, by decide +kernel, by decide +kernel⟩
abbrev s__law_says : Stmt := (topS 26)
theorem sc__law_says : FnScope ["actual", "expected"] ["actual", "expected"] (defScope s__law_says) := ⟨rfl, rfl, rfl, by decide +kernel, rfl, by decide +kernel, by decide +kernel⟩
abbrev s__law_right : Stmt := (topS 27)
theorem sc__law_right : FnScope ["word", "named", "found"] ["word"] (defScope s__law_right) := ⟨rfl, rfl, rfl, by decide +kernel, rfl, by decide +kernel, by decide +kernel⟩
abbrev s_law : Stmt := (topS 28)
theorem sc_law : FnScope ["script", "draws", "k", "thing", "number"] ["script"] (defScope s_law) := ⟨rfl, rfl, rfl, by decide +kernel, rfl, by decide +kernel, by decide +kernel⟩

structure TX (K : PySem.W.Frag) (mg : Str → Option Value) where
  a_has_plain_characters : Addr
  d_has_plain_characters : FuncData
  F_has_plain_characters : Fun K "has_plain_characters" "has_plain_characters" s_has_plain_characters a_has_plain_characters d_has_plain_characters
  b_has_plain_characters : Binds K d_has_plain_characters ["text"] []
  g_has_plain_characters : mg "has_plain_characters" = some (.ref a_has_plain_characters)
  a_is_integer_within : Addr
  d_is_integer_within : FuncData
  F_is_integer_within : Fun K "is_integer_within" "is_integer_within" s_is_integer_within a_is_integer_within d_is_integer_within
  b_is_integer_within : Binds K d_is_integer_within ["number", "low", "high"] []
  g_is_integer_within : mg "is_integer_within" = some (.ref a_is_integer_within)
  a_is_plain_name : Addr
  d_is_plain_name : FuncData
  F_is_plain_name : Fun K "is_plain_name" "is_plain_name" s_is_plain_name a_is_plain_name d_is_plain_name
  b_is_plain_name : Binds K d_is_plain_name ["name"] []
  g_is_plain_name : mg "is_plain_name" = some (.ref a_is_plain_name)
  a_is_slot_name : Addr
  d_is_slot_name : FuncData
  F_is_slot_name : Fun K "is_slot_name" "is_slot_name" s_is_slot_name a_is_slot_name d_is_slot_name
  b_is_slot_name : Binds K d_is_slot_name ["name"] []
  g_is_slot_name : mg "is_slot_name" = some (.ref a_is_slot_name)
  a_is_text : Addr
  d_is_text : FuncData
  F_is_text : Fun K "is_text" "is_text" s_is_text a_is_text d_is_text
  b_is_text : Binds K d_is_text ["text"] []
  g_is_text : mg "is_text" = some (.ref a_is_text)
  a_is_count : Addr
  d_is_count : FuncData
  F_is_count : Fun K "is_count" "is_count" s_is_count a_is_count d_is_count
  b_is_count : Binds K d_is_count ["number"] []
  g_is_count : mg "is_count" = some (.ref a_is_count)
  a_is_zone : Addr
  d_is_zone : FuncData
  F_is_zone : Fun K "is_zone" "is_zone" s_is_zone a_is_zone d_is_zone
  b_is_zone : Binds K d_is_zone ["zone"] []
  g_is_zone : mg "is_zone" = some (.ref a_is_zone)
  a_slot_name : Addr
  d_slot_name : FuncData
  F_slot_name : Fun K "slot_name" "slot_name" s_slot_name a_slot_name d_slot_name
  b_slot_name : Binds K d_slot_name ["name", "number"] []
  g_slot_name : mg "slot_name" = some (.ref a_slot_name)
  a_split_slot : Addr
  d_split_slot : FuncData
  F_split_slot : Fun K "split_slot" "split_slot" s_split_slot a_split_slot d_split_slot
  b_split_slot : Binds K d_split_slot ["slot"] []
  g_split_slot : mg "split_slot" = some (.ref a_split_slot)
  a__law_is_integer : Addr
  d__law_is_integer : FuncData
  F__law_is_integer : Fun K "_law_is_integer" "_law_is_integer" s__law_is_integer a__law_is_integer d__law_is_integer
  b__law_is_integer : Binds K d__law_is_integer ["actual"] []
  g__law_is_integer : mg "_law_is_integer" = some (.ref a__law_is_integer)
  a__law_draws : Addr
  d__law_draws : FuncData
  F__law_draws : Fun K "_law_draws" "_law_draws" s__law_draws a__law_draws d__law_draws
  b__law_draws : Binds K d__law_draws ["script", "many"] []
  g__law_draws : mg "_law_draws" = some (.ref a__law_draws)
  a__law_is_name : Addr
  d__law_is_name : FuncData
  F__law_is_name : Fun K "_law_is_name" "_law_is_name" s__law_is_name a__law_is_name d__law_is_name
  b__law_is_name : Binds K d__law_is_name ["word"] []
  g__law_is_name : mg "_law_is_name" = some (.ref a__law_is_name)
  a__law_is_slot : Addr
  d__law_is_slot : FuncData
  F__law_is_slot : Fun K "_law_is_slot" "_law_is_slot" s__law_is_slot a__law_is_slot d__law_is_slot
  b__law_is_slot : Binds K d__law_is_slot ["word"] []
  g__law_is_slot : mg "_law_is_slot" = some (.ref a__law_is_slot)
  a__law_is_text : Addr
  d__law_is_text : FuncData
  F__law_is_text : Fun K "_law_is_text" "_law_is_text" s__law_is_text a__law_is_text d__law_is_text
  b__law_is_text : Binds K d__law_is_text ["word"] []
  g__law_is_text : mg "_law_is_text" = some (.ref a__law_is_text)
  a__law_word : Addr
  d__law_word : FuncData
  F__law_word : Fun K "_law_word" "_law_word" s__law_word a__law_word d__law_word
  b__law_word : Binds K d__law_word ["draws"] []
  g__law_word : mg "_law_word" = some (.ref a__law_word)
  a__law_says : Addr
  d__law_says : FuncData
  F__law_says : Fun K "_law_says" "_law_says" s__law_says a__law_says d__law_says
  b__law_says : Binds K d__law_says ["actual", "expected"] []
  g__law_says : mg "_law_says" = some (.ref a__law_says)
  a__law_right : Addr
  d__law_right : FuncData
  F__law_right : Fun K "_law_right" "_law_right" s__law_right a__law_right d__law_right
  b__law_right : Binds K d__law_right ["word"] []
  g__law_right : mg "_law_right" = some (.ref a__law_right)
  a_law : Addr
  d_law : FuncData
  F_law : Fun K "law" "law" s_law a_law d_law
  b_law : Binds K d_law ["script"] []
  g_law : mg "law" = some (.ref a_law)
  t_SPACE : Tok
  c_SPACE : mg "SPACE" = some (.int 32 t_SPACE)
  t_PERCENT : Tok
  c_PERCENT : mg "PERCENT" = some (.int 37 t_PERCENT)
  t_TILDE : Tok
  c_TILDE : mg "TILDE" = some (.int 126 t_TILDE)
  t_DIGITS : Tok
  c_DIGITS : mg "DIGITS" = some (.str "0123456789" t_DIGITS)
  t_NAME_CHARACTERS : Tok
  c_NAME_CHARACTERS : mg "NAME_CHARACTERS" = some (.str "abcdefghijklmnopqrstuvwxyz0123456789" t_NAME_CHARACTERS)
  t_MOST_NAME : Tok
  c_MOST_NAME : mg "MOST_NAME" = some (.int 12 t_MOST_NAME)
  t_MOST_TEXT : Tok
  c_MOST_TEXT : mg "MOST_TEXT" = some (.int 40 t_MOST_TEXT)
  t_MOST_COUNT : Tok
  c_MOST_COUNT : mg "MOST_COUNT" = some (.int 1000000000000 t_MOST_COUNT)
  n_ord : mg "ord" = none
  n_len : mg "len" = none
  n_isinstance : mg "isinstance" = none
  n_str : mg "str" = none
  n_all : mg "all" = none
  n_int : mg "int" = none
  n_bool : mg "bool" = none
  n_range : mg "range" = none
  n_abs : mg "abs" = none
  n_tuple : mg "tuple" = none

/-! names and texts -/
def alphaL : List Nat := (Str.ofString "abcdefghijklmnopqrstuvwxyz0123456789").cps.toList
def digitL : List Nat := (Str.ofString "0123456789").cps.toList
def nameOk (z : Str) : Bool := decide (1 ≤ z.cps.toList.length ∧ z.cps.toList.length ≤ 12) && z.cps.toList.all fun c => decide (c ∈ alphaL)
def plainC (c : Nat) : Bool := !(decide (c < 32) || decide (126 < c) || decide (c = 37))
def plainS (z : Str) : Bool := z.cps.toList.all plainC
def textOk (z : Str) : Bool := decide (z.cps.toList.length ≤ 40) && plainS z
def headS (z : Str) : Str := cutS z none (some (-2))
def slotOk (z : Str) : Bool := decide (3 ≤ z.cps.toList.length) && (decide (atI z.cps.toList (-1) ∈ digitL.map some) && (decide (atI z.cps.toList (-2) = some 47) && nameOk (headS z)))
def digitOf (z : Str) : Nat := (atI z.cps.toList (-1)).getD 0 - 48
theorem zlen (z : Str) : z.length = z.cps.toList.length := by show z.cps.size = _; simp
theorem str_ext {a b : Str} (h : a.cps.toList = b.cps.toList) : a = b := by
  cases a; cases b
  simp only [Str.mk.injEq]
  exact Array.toList_inj.mp h
theorem head_list (z : Str) : (headS z).cps.toList = z.cps.toList.take (z.cps.toList.length - 2) := by
  unfold headS cutS
  show (((z.cps.toList.drop 0).take (((-2 : Int) + (z.length : Int)).toNat - 0)).toArray).toList = _
  rw [List.drop_zero, zlen]
  show List.take _ _ = _
  congr 1
  omega
theorem head_len (z : Str) : (headS z).length ≤ z.length := cutS_length z _ _
/-- a value that is no text, by its type -/
def Other (K : PySem.W.Frag) (H : Hp) (v : V) : Prop := ∃ t, TyX K H v (.type t) ∧ (t = "NoneType" ∨ t = "bool" ∨ t = "int" ∨ t = "tuple")
def IsText (v : V) (z : Str) : Prop := v = .str z ∧ z.length ≤ 100000
theorem isi_str {K : PySem.W.Frag} {H : Hp} {z : Str} {Q : VK} (q : Q (.bl true) H) : rIsi K [.str z, .ty "str"] H Q := ⟨.str z, .ty "str", .type "str", .type "str", true, rfl, .ty _, .base (.str z), kit_ty (by decide +kernel), q⟩
theorem isi_other {K : PySem.W.Frag} {H : Hp} {v : V} {Q : VK} (h : Other K H v) (q : Q (.bl false) H) : rIsi K [v, .ty "str"] H Q := by
  obtain ⟨t, ht, h⟩ := h
  refine ⟨v, .ty "str", .type t, .type "str", false, rfl, .ty _, ht, ?_, q⟩
  rcases h with rfl | rfl | rfl | rfl <;> exact kit_ty (by decide +kernel)
def sp_txt (K : PySem.W.Frag) (f : Str → Bool) : Sp := fun vs H Q _ => ∃ v, vs = [v] ∧ ((∃ z, IsText v z ∧ ∀ H', Same H H' → Q (.bl (f z)) H') ∨ (Other K H v ∧ ∀ H', Same H H' → Q (.bl false) H'))
def sp_str (f : Str → Bool) : Sp := fun vs H Q _ => ∃ z, vs = [.str z] ∧ z.length ≤ 100000 ∧ Q (.bl (f z)) H
theorem all_take {α : Type} {l : List α} {i : Nat} {x : α} {f : α → Bool} (h : l[i]? = some x) : (l.take (i + 1)).all f = ((l.take i).all f && f x) := by
  rw [take_more h, List.all_append]
  simp
theorem cps_at {z : Str} {i c : Nat} (h : z.cps[i]? = some c) : z.cps.toList[i]? = some c := by simpa using h
theorem sizeL (z : Str) : z.cps.size = z.cps.toList.length := by simp
theorem at_neg {α : Type} {xs : List α} (k : Nat) (h0 : 0 < k) (h : k ≤ xs.length) : ∃ c, atI xs (-(k : Int)) = some c := by
  have hx : xs.length - k < xs.length := by omega
  refine ⟨xs[xs.length - k], ?_⟩
  unfold atI ixN
  rw [if_neg (by omega), if_pos (by omega)]
  show xs[_]? = _
  rw [show (-(k : Int) + (xs.length : Int)).toNat = xs.length - k by omega, List.getElem?_eq_getElem hx]
theorem sign_inj {a b : Nat} (h : (⟨#[a]⟩ : Str) = ⟨#[b]⟩) : a = b := by
  injection h with h
  injection h with h
  injection h with h
def sp_within (K : PySem.W.Frag) : Sp := fun vs H Q _ => ∃ (v : V) (lo hi : Int), vs = [v, .int lo, .int hi] ∧ ((∃ i, v = .int i ∧ Q (.bl (decide (lo ≤ i ∧ i ≤ hi))) H) ∨ ∃ t, TyX K H v (.type t) ∧ (t = "bool" ∨ t = "NoneType" ∨ t = "str" ∨ t = "tuple") ∧ Q (.bl false) H)
def sp_count (K : PySem.W.Frag) : Sp := fun vs H Q _ => ∃ (v : V), vs = [v] ∧ ((∃ i, v = .int i ∧ Q (.bl (decide (0 ≤ i ∧ i ≤ 1000000000000))) H) ∨ ∃ t, TyX K H v (.type t) ∧ (t = "bool" ∨ t = "NoneType" ∨ t = "str" ∨ t = "tuple") ∧ Q (.bl false) H)
def zoneOk (z : Str) : Bool := decide (z = "") || nameOk z
/-- == of scalars, or of data -/
def rEqM (K : PySem.W.Frag) : R2 := fun x y H Q => rEq x y H Q ∨ rEqD K x y H Q
theorem op_eqM {X : Cx} (hu : X.A.units + 64 < cLine) : OpR X (compareOp .Eq) (rEqM X.K) := fun pins s σ H x y v u Q I rx ry h =>
  h.elim (fun h => op_eq pins s σ H x y v u Q I rx ry h) fun h => op_eqD hu pins s σ H x y v u Q I rx ry h
/-- None, a bool, an int, a tuple of plain data -/
def OtherZ (K : PySem.W.Frag) (H : Hp) (v : V) : Prop := v = .non ∨ (∃ b, v = .bl b) ∨ (∃ i, v = .int i) ∨ ∃ p xs ds, v = .ref p ∧ SqT K H p xs ∧ Dp K H v (.tuple ds) ∧ SeqAt.shaped (.tuple ds) = true
theorem OtherZ.other {K : PySem.W.Frag} {H : Hp} {v : V} (h : OtherZ K H v) : Other K H v := by
  rcases h with rfl | ⟨b, rfl⟩ | ⟨i, rfl⟩ | ⟨p, xs, ds, rfl, hp, _⟩
  · exact ⟨_, .base .non, .inl rfl⟩
  · exact ⟨_, .base (.bl b), .inr (.inl rfl)⟩
  · exact ⟨_, .base (.int i), .inr (.inr (.inl rfl))⟩
  · exact ⟨_, tyx_t hp, .inr (.inr (.inr rfl))⟩
theorem OtherZ.eq {K : PySem.W.Frag} {H : Hp} {v : V} {Q : VK} (h : OtherZ K H v) (q : Q (.bl false) H) : rEqM K v (.str "") H Q := by
  rcases h with rfl | ⟨b, rfl⟩ | ⟨i, rfl⟩ | ⟨p, xs, ds, rfl, hp, hd, hs⟩
  · exact .inl ⟨rfl, q⟩
  · exact .inl ⟨rfl, q⟩
  · exact .inl ⟨rfl, q⟩
  · exact .inr ⟨_, _, hd, .str _, hs, by decide +kernel, q⟩
def sp_zone (K : PySem.W.Frag) : Sp := fun vs H Q _ => ∃ v, vs = [v] ∧ ((∃ z, IsText v z ∧ ∀ H', Same H H' → Q (.bl (zoneOk z)) H') ∨ (OtherZ K H v ∧ ∀ H', Same H H' → Q (.bl false) H'))
theorem str_app (a b : Str) : (a ++ b).cps.toList = a.cps.toList ++ b.cps.toList := by
  show (a.cps ++ b.cps).toList = _
  simp
theorem str_app_len (a b : Str) : (a ++ b).length = a.length + b.length := by
  rw [zlen, str_app, List.length_append, zlen, zlen]
theorem dig_len : ∀ {n : Int}, 0 ≤ n → n ≤ 9 → ((toString n : Str)).length = 1 := by
  intro n h0 h9
  have : n = 0 ∨ n = 1 ∨ n = 2 ∨ n = 3 ∨ n = 4 ∨ n = 5 ∨ n = 6 ∨ n = 7 ∨ n = 8 ∨ n = 9 := by omega
  rcases this with rfl | rfl | rfl | rfl | rfl | rfl | rfl | rfl | rfl | rfl <;> decide +kernel
theorem dig_int {c : Nat} (h : c ∈ digitL) : PySem.intText? ⟨#[c]⟩ = some (((c - 48 : Nat) : Int)) := by
  have : ∀ c ∈ digitL, PySem.intText? ⟨#[c]⟩ = some (((c - 48 : Nat) : Int)) := by decide +kernel
  exact this c h
theorem slot_digit {z : Str} (h : slotOk z = true) : ∃ c, atI z.cps.toList (-1) = some c ∧ c ∈ digitL := by
  unfold slotOk at h
  rw [Bool.and_eq_true, Bool.and_eq_true] at h
  obtain ⟨_, h, _⟩ := h
  obtain ⟨c, hc, e⟩ := List.mem_map.mp (of_decide_eq_true h)
  exact ⟨c, e.symm, hc⟩
def sp_slotname : Sp := fun vs H Q _ => ∃ (z : Str) (n : Int), vs = [.str z, .int n] ∧ z.length ≤ 1000 ∧ 0 ≤ n ∧ n ≤ 9 ∧ Q (.str (z ++ ("/" : Str) ++ toString n)) H
def sp_split (K : PySem.W.Frag) : Sp := fun vs H Q _ => ∃ (z : Str), vs = [.str z] ∧ z.length ≤ 100000 ∧ (slotOk z = false → ∀ H', Same H H' → Q .non H') ∧
  (slotOk z = true → ∀ p H', H p = none → Same H H' → H' p = some (.tup [.str (headS z), .int ((digitOf z : Nat) : Int)]) → Q (.ref p) H')
section
variable {P : Program} {w : World} {K : PySem.W.Frag} {mg : Str → Option Value} {base : Heap}
theorem ok_has_plain_characters (T : TX K mg) : FnOk P w K mg base CX0 1 T.a_has_plain_characters T.d_has_plain_characters ["text"] (sp_str plainS) := by
  refine T.F_has_plain_characters.ok sc_has_plain_characters (fun vs H Q E h => ?_) (fun cdv A outer s H vs Q E hr h => ?_)
  · obtain ⟨z, rfl, _⟩ := h
    rfl
  · obtain ⟨z, rfl, hz, q⟩ := h
    refine ⟨_, (pss_cons (ps_for PassesOwn.never rfl (pi_str (pv 0)) (pg_name (i := 1) sc_has_plain_characters.nd rfl (Or.inl rfl))
        (pss_cons (ps_set (i := 2) sc_has_plain_characters.nd rfl (Or.inl rfl) (pe_callB call_ord (by rfl) T.n_ord (by decide +kernel) (pa_cons (pv 1) pa_nil)))
        (pss_one (ps_if (PW.pt (pw_or (pt_cmpR op_lt (pv 2) (pe_glob (v := .int 32) (by rfl) T.c_SPACE ⟨_, rfl⟩) (nomark _)) (pw_or (pt_cmpR op_gt (pv 2) (pe_glob (v := .int 126) (by rfl) T.c_TILDE ⟨_, rfl⟩) (nomark _)) (pw_or1 (pt_cmpR op_eq (pv 2) (pe_glob (v := .int 37) (by rfl) T.c_PERCENT ⟨_, rfl⟩) (nomark _)))))) (pss_one (ps_ret pe_bl)) pss_nil))))
      (pss_one (ps_ret pe_bl))), ?_⟩
    refine ⟨_, rfl, z, rfl, for_it walk_str (fun i σ H2 => H = H2 ∧ (z.cps.toList.take i).all plainC = true ∧ ∃ x1 x2, σ = [some (.str z), x1, x2]) ⟨rfl, rfl, none, none, rfl⟩ (fun _ _ _ _ _ => trivial) ?_ ?_⟩
    · rintro i x σ _ _ hi ⟨rfl, ha, x1, x2, rfl⟩ ⟨rfl, c, hc, rfl⟩
      have hm := all_take (f := plainC) (cps_at hc)
      rw [ha, Bool.true_and] at hm
      have hno : plainC c = false → plainS z = false := fun h => by
        unfold plainS
        rw [List.all_eq_false]
        exact ⟨c, List.mem_of_getElem? (cps_at hc), by rw [h]; simp⟩
      refine ⟨_, rfl, _, rfl, rfl, _, rfl, _, _, rfl, rfl, _, rfl, ifd (fun h1 => ?_) (fun h1 => ?_)⟩
      · refine (if_pos rfl).mpr ?_
        have : plainC c = false := by
          unfold plainC
          have h1' : (c : Int) < 32 := h1
          simp [show c < 32 by omega]
        rw [hno this] at q
        exact q
      · refine ⟨_, rfl, _, _, rfl, rfl, _, rfl, ifd (fun h2 => ?_) (fun h2 => ?_)⟩
        · refine (if_pos rfl).mpr ?_
          have : plainC c = false := by
            unfold plainC
            have h2' : (126 : Int) < (c : Int) := h2
            simp [show 126 < c by omega]
          rw [hno this] at q
          exact q
        · refine ⟨_, rfl, rfl, _, rfl, ifd (fun h3 => ?_) (fun h3 => ?_)⟩
          · have h3' : ((c : Nat) : Int) = 37 := V.int.inj h3
            have : plainC c = false := by
              unfold plainC
              simp [show c = 37 by omega]
            rw [hno this] at q
            exact q
          · have h3' : ¬ ((c : Nat) : Int) = 37 := fun z => h3 (by show V.int _ = V.int _; rw [← z]; rfl)
            have h1' : ¬ (c : Int) < 32 := h1
            have h2' : ¬ (126 : Int) < (c : Int) := h2
            refine ⟨rfl, ?_, _, _, rfl⟩
            rw [hm]
            unfold plainC
            simp only [Bool.not_eq_true', Bool.or_eq_false_iff, decide_eq_false_iff_not]
            omega
    · rintro σ _ ⟨rfl, ha, x1, x2, rfl⟩
      rw [sizeL, List.take_length] at ha
      have : plainS z = true := ha
      rw [this] at q
      exact q
theorem ok_is_plain_name (T : TX K mg) : FnOk P w K mg base CX0 1 T.a_is_plain_name T.d_is_plain_name ["name"] (sp_txt K nameOk) := by
  refine T.F_is_plain_name.ok sc_is_plain_name (fun vs H Q E h => ?_) (fun cdv A outer s H vs Q E hr h => ?_)
  · obtain ⟨v, rfl, _⟩ := h
    rfl
  · obtain ⟨v, rfl, ⟨z, ⟨rfl, hz⟩, q⟩ | ⟨ho, q⟩⟩ := h
    · refine ⟨_, (pss_cons (ps_if (PW.pt (pw_or (pt_not (pt_val (pe_callB call_isi (by rfl) T.n_isinstance (by decide +kernel) (pa_cons (pv 0) (pa_cons (pe_bltn (v := .ty "str") (u := .type "str") (by rfl) T.n_str (by decide +kernel) rfl) pa_nil))))) (pw_or1 (pt_not (pt_chain op_le op_le pe_int (pe_callB call_len_str (by rfl) T.n_len PySem.boot_len (pa_cons (pv 0) pa_nil)) (pe_glob (v := .int 12) (by rfl) T.c_MOST_NAME ⟨_, rfl⟩)))))) (pss_one (ps_ret pe_bl)) pss_nil)
      (pss_one (ps_ret (pe_callB (cr_all rfl) (by rfl) T.n_all (by decide +kernel) (pa_cons (pe_lc (own := [("character", 1)]) (g := gName 1) (tt := tYes) (by rfl) sc_is_plain_name.nd (pi_str (pv 0)) (blkOk_by (own := [("character", 1)]) (N := ["name", "character"]) (sc := defScope s_is_plain_name) (by decide +kernel)) (fun _ _ _ _ _ => pg_name (i := 1) sc_is_plain_name.nd rfl (Or.inl rfl)) (fun _ _ _ _ _ => pts_nil) (fun _ _ _ _ _ => (pe_cmpR op_in_sign (pv 1) (pe_glob (v := .str "abcdefghijklmnopqrstuvwxyz0123456789") (by rfl) T.c_NAME_CHARACTERS ⟨_, rfl⟩) rfl))) pa_nil))))), ?_⟩
      refine ⟨_, rfl, .str z, .ty "str", .type "str", .type "str", true, rfl, .ty _, .base (.str z), kit_ty (by decide +kernel), _, rfl, ifbf rfl ?_⟩
      refine ⟨_, rfl, _, rfl, sz hz, _, _, rfl, rfl, _, rfl, ifd (fun h1 => ?_) (fun h1 => ?_)⟩
      · refine ⟨_, _, rfl, rfl, _, rfl, ?_⟩
        dsimp only
        refine ifn (fun h2 => ?_) (fun h2 => ?_)
        · have : nameOk z = false := by
            unfold nameOk
            rw [decide_eq_false (fun h => h2 (by have := h.2; rw [zlen]; show ((z.cps.toList.length : Nat) : Int) ≤ 12; omega)), Bool.false_and]
          rw [this] at q
          exact q _ (Same.refl _)
        · refine ⟨_, rfl, z, rfl, fun D hD => ?_⟩
          refine lc_it walk_str (fun i H' => Same H H' ∧ H' D = some (.lst (((z.cps.toList.take i).map fun c => decide (c ∈ alphaL)).map V.bl))) ⟨same_upd hD, upd_same⟩ (fun _ _ _ _ => trivial) ?_ ?_
          · rintro i x G _ hi ⟨hs, hl⟩ ⟨rfl, c, hc, rfl⟩
            have hll : (((z.cps.toList.take i).map fun c => decide (c ∈ alphaL)).map V.bl).length ≤ 100000 := by
              rw [List.length_map, List.length_map, List.length_take]
              have := zlen z
              omega
            refine ⟨rfl, _, rfl, _, _, rfl, rfl, _, hl, szl (by omega), same_put hs hD, ?_⟩
            rw [upd_same, take_more (cps_at hc), List.map_append, List.map_append]
            rfl
          · rintro G ⟨hs, hl⟩
            rw [sizeL, List.take_length] at hl
            refine ⟨D, _, rfl, sql hl, ?_⟩
            have h1' : (1 : Int) ≤ ((z.length : Nat) : Int) := h1
            have h2' : ((z.length : Nat) : Int) ≤ 12 := h2
            have e : nameOk z = ((z.cps.toList.map fun c => decide (c ∈ alphaL)).all id) := by
              unfold nameOk
              rw [zlen] at h1' h2'
              rw [decide_eq_true ⟨by omega, by omega⟩, Bool.true_and, List.all_map]
              rfl
            rw [e] at q
            exact q G hs
      · have : nameOk z = false := by
          unfold nameOk
          rw [decide_eq_false (fun h => h1 (by have := h.1; rw [zlen]; show (1 : Int) ≤ ((z.cps.toList.length : Nat) : Int); omega)), Bool.false_and]
        rw [this] at q
        exact ⟨_, rfl, q _ (Same.refl _)⟩
    · obtain ⟨t, ht, h4⟩ := ho
      have hk : PySem.W.kitOne K (.type t) (.type "str") = some false := by rcases h4 with rfl | rfl | rfl | rfl <;> exact kit_ty (by decide +kernel)
      refine ⟨_, (pss_cons (ps_if (PW.pt (pw_or (pt_not (pt_val (pe_callB call_isi (by rfl) T.n_isinstance (by decide +kernel) (pa_cons (pv 0) (pa_cons (pe_bltn (v := .ty "str") (u := .type "str") (by rfl) T.n_str (by decide +kernel) rfl) pa_nil))))) (pw_or1 (pt_not (pt_chain op_le op_le pe_int (pe_callB call_len_str (by rfl) T.n_len PySem.boot_len (pa_cons (pv 0) pa_nil)) (pe_glob (v := .int 12) (by rfl) T.c_MOST_NAME ⟨_, rfl⟩)))))) (pss_one (ps_ret pe_bl)) pss_nil)
      (pss_one (ps_ret (pe_callB (cr_all rfl) (by rfl) T.n_all (by decide +kernel) (pa_cons (pe_lc (own := [("character", 1)]) (g := gName 1) (tt := tYes) (by rfl) sc_is_plain_name.nd (pi_str (pv 0)) (blkOk_by (own := [("character", 1)]) (N := ["name", "character"]) (sc := defScope s_is_plain_name) (by decide +kernel)) (fun _ _ _ _ _ => pg_name (i := 1) sc_is_plain_name.nd rfl (Or.inl rfl)) (fun _ _ _ _ _ => pts_nil) (fun _ _ _ _ _ => (pe_cmpR op_in_sign (pv 1) (pe_glob (v := .str "abcdefghijklmnopqrstuvwxyz0123456789") (by rfl) T.c_NAME_CHARACTERS ⟨_, rfl⟩) rfl))) pa_nil))))), ?_⟩
      refine ⟨_, rfl, v, .ty "str", .type t, .type "str", false, rfl, .ty _, ht, hk, _, rfl, ?_⟩
      exact q _ (Same.refl _)
theorem ok_is_slot_name (T : TX K mg) : FnOk P w K mg base CX0 2 T.a_is_slot_name T.d_is_slot_name ["name"] (sp_txt K slotOk) := by
  refine T.F_is_slot_name.ok sc_is_slot_name (fun vs H Q E h => ?_) (fun cdv A outer s H vs Q E hr h => ?_)
  · obtain ⟨v, rfl, _⟩ := h
    rfl
  · obtain ⟨v, rfl, ⟨z, ⟨rfl, hz⟩, q⟩ | ⟨ho, q⟩⟩ := h
    · refine ⟨_, (pss_cons (ps_if (PW.pt (pw_or (pt_not (pt_val (pe_callB call_isi (by rfl) T.n_isinstance (by decide +kernel) (pa_cons (pv 0) (pa_cons (pe_bltn (v := .ty "str") (u := .type "str") (by rfl) T.n_str (by decide +kernel) rfl) pa_nil))))) (pw_or1 (pt_cmpR op_lt (pe_callB call_len_str (by rfl) T.n_len PySem.boot_len (pa_cons (pv 0) pa_nil)) pe_int (nomark _))))) (pss_one (ps_ret pe_bl)) pss_nil)
      (pss_one (ps_ret (pe_and (pe_cmpR op_in_sign (pe_ix ix_str (pv 0) (pe_un un_neg pe_int) (fun _ _ => rfl)) (pe_glob (v := .str "0123456789") (by rfl) T.c_DIGITS ⟨_, rfl⟩) rfl) (pe_and (pe_cmpR op_eq (pe_ix ix_str (pv 0) (pe_un un_neg pe_int) (fun _ _ => rfl)) pe_str (nomark _)) (pe_one (pe_call (ok_is_plain_name T) (hr.mono (by decide)) (by rfl) T.g_is_plain_name T.F_is_plain_name.kp T.b_is_plain_name .nil pass0 (pa_cons (pe_slice sl_str (pv 0) po_none (po_some (pe_un un_neg pe_int))) pa_nil)))))))), ?_⟩
      refine ⟨_, rfl, .str z, .ty "str", .type "str", .type "str", true, rfl, .ty _, .base (.str z), kit_ty (by decide +kernel), _, rfl, ifbf rfl ?_⟩
      refine ⟨_, rfl, _, rfl, sz hz, _, _, rfl, rfl, _, rfl, ifd (fun h1 => ?_) (fun h1 => ?_)⟩
      · have h1' : ((z.length : Nat) : Int) < 3 := h1
        rw [zlen] at h1'
        have : slotOk z = false := by
          unfold slotOk
          rw [decide_eq_false (by omega), Bool.false_and]
        rw [this] at q
        exact q _ (Same.refl _)
      · have h1' : ¬ ((z.length : Nat) : Int) < 3 := h1
        have hl := zlen z
        obtain ⟨c, hc⟩ : ∃ c, atI z.cps.toList (-1) = some c := at_neg 1 (by decide) (by omega)
        obtain ⟨d, hd⟩ : ∃ d, atI z.cps.toList (-2) = some d := at_neg 2 (by decide) (by omega)
        have e0 : slotOk z = (decide (c ∈ digitL) && (decide (d = 47) && nameOk (headS z))) := by
          unfold slotOk
          rw [hc, hd, decide_eq_true (show 3 ≤ z.cps.toList.length by omega), Bool.true_and]
          congr 1
          · simp
          · congr 1
            simp
        rw [e0] at q
        refine ⟨_, rfl, _, rfl, z, _, c, rfl, rfl, sz hz, hc, _, _, rfl, rfl, _, rfl, ?_⟩
        change if decide (c ∈ digitL) = true then _ else _
        cases hcd : decide (c ∈ digitL) with
        | false =>
          rw [hcd, Bool.false_and] at q
          exact q _ (Same.refl _)
        | true =>
          rw [hcd, Bool.true_and] at q
          refine ⟨_, rfl, _, rfl, z, _, d, rfl, rfl, sz hz, hd, rfl, _, rfl, ?_⟩
          dsimp only
          refine ifd (fun h2 => ?_) (fun h2 => ?_)
          · have h2' : d = 47 := by
              have := V.str.inj h2
              exact sign_inj this
            rw [decide_eq_true h2', Bool.true_and] at q
            refine ⟨_, rfl, _, rfl, _, rfl, z, rfl, sz hz, ?_⟩
            exact ⟨_, rfl, .inl ⟨_, ⟨rfl, Nat.le_trans (cutS_length z _ _) hz⟩, q⟩⟩
          · have h2' : ¬ d = 47 := fun e => h2 (by rw [e]; rfl)
            rw [decide_eq_false h2', Bool.false_and] at q
            exact q _ (Same.refl _)
    · obtain ⟨t, ht, h4⟩ := ho
      have hk : PySem.W.kitOne K (.type t) (.type "str") = some false := by rcases h4 with rfl | rfl | rfl | rfl <;> exact kit_ty (by decide +kernel)
      refine ⟨_, (pss_cons (ps_if (PW.pt (pw_or (pt_not (pt_val (pe_callB call_isi (by rfl) T.n_isinstance (by decide +kernel) (pa_cons (pv 0) (pa_cons (pe_bltn (v := .ty "str") (u := .type "str") (by rfl) T.n_str (by decide +kernel) rfl) pa_nil))))) (pw_or1 (pt_cmpR op_lt (pe_callB call_len_str (by rfl) T.n_len PySem.boot_len (pa_cons (pv 0) pa_nil)) pe_int (nomark _))))) (pss_one (ps_ret pe_bl)) pss_nil)
      (pss_one (ps_ret (pe_and (pe_cmpR op_in_sign (pe_ix ix_str (pv 0) (pe_un un_neg pe_int) (fun _ _ => rfl)) (pe_glob (v := .str "0123456789") (by rfl) T.c_DIGITS ⟨_, rfl⟩) rfl) (pe_and (pe_cmpR op_eq (pe_ix ix_str (pv 0) (pe_un un_neg pe_int) (fun _ _ => rfl)) pe_str (nomark _)) (pe_one (pe_call (ok_is_plain_name T) (hr.mono (by decide)) (by rfl) T.g_is_plain_name T.F_is_plain_name.kp T.b_is_plain_name .nil pass0 (pa_cons (pe_slice sl_str (pv 0) po_none (po_some (pe_un un_neg pe_int))) pa_nil)))))))), ?_⟩
      refine ⟨_, rfl, v, .ty "str", .type t, .type "str", false, rfl, .ty _, ht, hk, _, rfl, ?_⟩
      exact q _ (Same.refl _)
theorem ok_is_text (T : TX K mg) : FnOk P w K mg base CX0 2 T.a_is_text T.d_is_text ["text"] (sp_txt K textOk) := by
  refine T.F_is_text.ok sc_is_text (fun vs H Q E h => ?_) (fun cdv A outer s H vs Q E hr h => ?_)
  · obtain ⟨v, rfl, _⟩ := h
    rfl
  · obtain ⟨v, rfl, ⟨z, ⟨rfl, hz⟩, q⟩ | ⟨ho, q⟩⟩ := h
    · refine ⟨_, (pss_one (ps_ret (pe_and (pe_callB call_isi (by rfl) T.n_isinstance (by decide +kernel) (pa_cons (pv 0) (pa_cons (pe_bltn (v := .ty "str") (u := .type "str") (by rfl) T.n_str (by decide +kernel) rfl) pa_nil))) (pe_and (pe_cmpR op_le (pe_callB call_len_str (by rfl) T.n_len PySem.boot_len (pa_cons (pv 0) pa_nil)) (pe_glob (v := .int 40) (by rfl) T.c_MOST_TEXT ⟨_, rfl⟩) (nomark _)) (pe_one (pe_call (ok_has_plain_characters T) (hr.mono (by decide)) (by rfl) T.g_has_plain_characters T.F_has_plain_characters.kp T.b_has_plain_characters .nil pass0 (pa_cons (pv 0) pa_nil))))))), ?_⟩
      refine ⟨_, rfl, .str z, .ty "str", .type "str", .type "str", true, rfl, .ty _, .base (.str z), kit_ty (by decide +kernel), _, rfl, ifbt rfl ?_⟩
      refine ⟨_, rfl, _, rfl, sz hz, _, _, rfl, rfl, _, rfl, ?_⟩
      dsimp only
      refine ifd (fun h1 => ?_) (fun h1 => ?_)
      · have h1' : ((z.length : Nat) : Int) ≤ 40 := h1
        rw [zlen] at h1'
        unfold textOk at q
        rw [decide_eq_true (show z.cps.toList.length ≤ 40 by omega), Bool.true_and] at q
        exact ⟨_, rfl, _, rfl, hz, q _ (Same.refl _)⟩
      · have h1' : ¬ ((z.length : Nat) : Int) ≤ 40 := h1
        rw [zlen] at h1'
        unfold textOk at q
        rw [decide_eq_false (show ¬ z.cps.toList.length ≤ 40 by omega), Bool.false_and] at q
        exact q _ (Same.refl _)
    · obtain ⟨t, ht, h4⟩ := ho
      have hk : PySem.W.kitOne K (.type t) (.type "str") = some false := by rcases h4 with rfl | rfl | rfl | rfl <;> exact kit_ty (by decide +kernel)
      refine ⟨_, (pss_one (ps_ret (pe_and (pe_callB call_isi (by rfl) T.n_isinstance (by decide +kernel) (pa_cons (pv 0) (pa_cons (pe_bltn (v := .ty "str") (u := .type "str") (by rfl) T.n_str (by decide +kernel) rfl) pa_nil))) (pe_and (pe_cmpR op_le (pe_callB call_len_str (by rfl) T.n_len PySem.boot_len (pa_cons (pv 0) pa_nil)) (pe_glob (v := .int 40) (by rfl) T.c_MOST_TEXT ⟨_, rfl⟩) (nomark _)) (pe_one (pe_call (ok_has_plain_characters T) (hr.mono (by decide)) (by rfl) T.g_has_plain_characters T.F_has_plain_characters.kp T.b_has_plain_characters .nil pass0 (pa_cons (pv 0) pa_nil))))))), ?_⟩
      refine ⟨_, rfl, v, .ty "str", .type t, .type "str", false, rfl, .ty _, ht, hk, _, rfl, ?_⟩
      exact q _ (Same.refl _)
theorem ok_is_integer_within (T : TX K mg) : FnOk P w K mg base CX0 1 T.a_is_integer_within T.d_is_integer_within ["number", "low", "high"] (sp_within K) := by
  refine T.F_is_integer_within.ok sc_is_integer_within (fun vs H Q E h => ?_) (fun cdv A outer s H vs Q E hr h => ?_)
  · obtain ⟨v, lo, hi, rfl, _⟩ := h
    rfl
  · obtain ⟨v, lo, hi, rfl, ⟨i, rfl, q⟩ | ⟨t, ht, h4, q⟩⟩ := h
    · refine ⟨_, (pss_cons (ps_if (PW.pt (pw_or (pt_val (pe_callB call_isi (by rfl) T.n_isinstance (by decide +kernel) (pa_cons (pv 0) (pa_cons (pe_bltn (v := .ty "bool") (u := .type "bool") (by rfl) T.n_bool (by decide +kernel) rfl) pa_nil)))) (pw_or1 (pt_not (pt_val (pe_callB call_isi (by rfl) T.n_isinstance (by decide +kernel) (pa_cons (pv 0) (pa_cons (pe_bltn (v := .ty "int") (u := .type "int") (by rfl) T.n_int (by decide +kernel) rfl) pa_nil)))))))) (pss_one (ps_ret pe_bl)) pss_nil)
      (pss_one (ps_ret (pe_chain op_le op_le (pv 1) (pv 0) (pv 2))))), ?_⟩
      refine ⟨_, rfl, .int i, .ty "bool", .type "int", .type "bool", false, rfl, .ty _, .base (.int i), kit_ty (by decide +kernel), _, rfl, ?_⟩
      refine ⟨_, rfl, .int i, .ty "int", .type "int", .type "int", true, rfl, .ty _, .base (.int i), kit_ty (by decide +kernel), _, rfl, ifbf rfl ?_⟩
      refine ⟨_, rfl, _, rfl, _, _, rfl, rfl, _, rfl, ?_⟩
      dsimp only
      refine ifd (fun h1 => ?_) (fun h1 => ?_)
      · refine ⟨_, rfl, _, _, rfl, rfl, ?_⟩
        rw [show decide (lo ≤ i ∧ i ≤ hi) = decide (i ≤ hi) by simp [h1]] at q
        exact q
      · rw [show decide (lo ≤ i ∧ i ≤ hi) = false by simp [h1]] at q
        exact q
    · rcases h4 with rfl | h4
      · refine ⟨_, (pss_cons (ps_if (PW.pt (pw_or (pt_val (pe_callB call_isi (by rfl) T.n_isinstance (by decide +kernel) (pa_cons (pv 0) (pa_cons (pe_bltn (v := .ty "bool") (u := .type "bool") (by rfl) T.n_bool (by decide +kernel) rfl) pa_nil)))) (pw_or1 (pt_not (pt_val (pe_callB call_isi (by rfl) T.n_isinstance (by decide +kernel) (pa_cons (pv 0) (pa_cons (pe_bltn (v := .ty "int") (u := .type "int") (by rfl) T.n_int (by decide +kernel) rfl) pa_nil)))))))) (pss_one (ps_ret pe_bl)) pss_nil)
      (pss_one (ps_ret (pe_chain op_le op_le (pv 1) (pv 0) (pv 2))))), ?_⟩
        refine ⟨_, rfl, v, .ty "bool", .type "bool", .type "bool", true, rfl, .ty _, ht, kit_ty (by decide +kernel), _, rfl, ?_⟩
        exact q
      · have hk1 : PySem.W.kitOne K (.type t) (.type "bool") = some false := by rcases h4 with rfl | rfl | rfl <;> exact kit_ty (by decide +kernel)
        have hk2 : PySem.W.kitOne K (.type t) (.type "int") = some false := by rcases h4 with rfl | rfl | rfl <;> exact kit_ty (by decide +kernel)
        refine ⟨_, (pss_cons (ps_if (PW.pt (pw_or (pt_val (pe_callB call_isi (by rfl) T.n_isinstance (by decide +kernel) (pa_cons (pv 0) (pa_cons (pe_bltn (v := .ty "bool") (u := .type "bool") (by rfl) T.n_bool (by decide +kernel) rfl) pa_nil)))) (pw_or1 (pt_not (pt_val (pe_callB call_isi (by rfl) T.n_isinstance (by decide +kernel) (pa_cons (pv 0) (pa_cons (pe_bltn (v := .ty "int") (u := .type "int") (by rfl) T.n_int (by decide +kernel) rfl) pa_nil)))))))) (pss_one (ps_ret pe_bl)) pss_nil)
      (pss_one (ps_ret (pe_chain op_le op_le (pv 1) (pv 0) (pv 2))))), ?_⟩
        refine ⟨_, rfl, v, .ty "bool", .type t, .type "bool", false, rfl, .ty _, ht, hk1, _, rfl, ?_⟩
        refine ⟨_, rfl, v, .ty "int", .type t, .type "int", false, rfl, .ty _, ht, hk2, _, rfl, ?_⟩
        exact q
theorem ok_is_count (T : TX K mg) : FnOk P w K mg base CX0 2 T.a_is_count T.d_is_count ["number"] (sp_count K) := by
  refine T.F_is_count.ok sc_is_count (fun vs H Q E h => ?_) (fun cdv A outer s H vs Q E hr h => ?_)
  · obtain ⟨v, rfl, _⟩ := h
    rfl
  · obtain ⟨v, rfl, h⟩ := h
    refine ⟨_, (pss_one (ps_ret (pe_call (ok_is_integer_within T) (hr.mono (by decide)) (by rfl) T.g_is_integer_within T.F_is_integer_within.kp T.b_is_integer_within .nil pass0 (pa_cons (pv 0) (pa_cons pe_int (pa_cons (pe_glob (v := .int 1000000000000) (by rfl) T.c_MOST_COUNT ⟨_, rfl⟩) pa_nil)))))), ?_⟩
    exact ⟨_, rfl, _, _, _, rfl, h⟩
theorem ok_is_zone (T : TX K mg) : FnOk P w K mg base CX0 2 T.a_is_zone T.d_is_zone ["zone"] (sp_zone K) := by
  refine T.F_is_zone.ok sc_is_zone (fun vs H Q E h => ?_) (fun cdv A outer s H vs Q E hr h => ?_)
  · obtain ⟨v, rfl, _⟩ := h
    rfl
  · obtain ⟨v, rfl, h⟩ := h
    refine ⟨_, (pss_one (ps_ret (pe_or (pe_cmpR (op_eqM hr.units) (pv 0) pe_str (nomark _)) (pe_one (pe_call (ok_is_plain_name T) (hr.mono (by decide)) (by rfl) T.g_is_plain_name T.F_is_plain_name.kp T.b_is_plain_name .nil pass0 (pa_cons (pv 0) pa_nil)))))), ?_⟩
    rcases h with ⟨z, ⟨rfl, hz⟩, q⟩ | ⟨ho, q⟩
    · refine ⟨_, rfl, .inl ⟨rfl, _, rfl, ?_⟩⟩
      refine ifd (fun h1 => ?_) (fun h1 => ?_)
      · have : z = "" := V.str.inj h1
        have : zoneOk z = true := by rw [this]; rfl
        rw [this] at q
        exact q _ (Same.refl _)
      · have : zoneOk z = nameOk z := by
          unfold zoneOk
          rw [decide_eq_false (fun e => h1 (by rw [e])), Bool.false_or]
        rw [this] at q
        exact ⟨_, rfl, _, rfl, .inl ⟨_, ⟨rfl, hz⟩, q⟩⟩
    · refine ⟨_, rfl, ho.eq ⟨_, rfl, ?_⟩⟩
      exact ⟨_, rfl, _, rfl, .inr ⟨ho.other, q⟩⟩
theorem ok_slot_name (T : TX K mg) : FnOk P w K mg base CX0 1 T.a_slot_name T.d_slot_name ["name", "number"] sp_slotname := by
  refine T.F_slot_name.ok sc_slot_name (fun vs H Q E h => ?_) (fun cdv A outer s H vs Q E hr h => ?_)
  · obtain ⟨z, n, rfl, _⟩ := h
    rfl
  · obtain ⟨z, n, rfl, hz, h0, h9, q⟩ := h
    refine ⟨_, (pss_one (ps_ret (pe_joined (.cons (pe_fmt (pv 0)) (.cons pe_str (.cons (pe_fmt (pv 1)) .nil)))))), ?_⟩
    have lz := hz
    have l1 : (Str.empty ++ z).length ≤ 100000 := by rw [str_app_len]; show 0 + z.length ≤ _; omega
    have l2 : (Str.empty ++ z ++ ("/" : Str)).length ≤ 100000 := by rw [str_app_len, str_app_len]; show 0 + z.length + 1 ≤ _; omega
    have l3 : (Str.empty ++ z ++ ("/" : Str) ++ toString n).length ≤ 100000 := by
      rw [str_app_len, str_app_len, str_app_len]
      have : ((toString n : Str)).length = 1 := dig_len h0 h9
      show 0 + z.length + 1 + _ ≤ _
      omega
    refine ⟨_, rfl, .inl ⟨z, rfl, sz (by omega), z, rfl, sz l1, ?_⟩⟩
    refine ⟨_, rfl, sz l2, ?_⟩
    refine ⟨_, rfl, .inr ⟨n, rfl, ?_, _, rfl, sz l3, ?_⟩⟩
    · have : n.natAbs < 2 ^ 1920 := Nat.lt_of_lt_of_le (show n.natAbs < 10 by omega) (by decide +kernel)
      rcases Nat.eq_zero_or_pos n.natAbs with h | h
      · rw [h]; decide
      · exact (Nat.log2_lt (by omega)).mpr this
    · have e : Str.empty ++ z ++ ("/" : Str) ++ toString n = z ++ ("/" : Str) ++ toString n := by
        apply str_ext
        simp [str_app]
        rfl
      rw [e]
      exact q
theorem ok_split_slot (T : TX K mg) : FnOk P w K mg base CX0 3 T.a_split_slot T.d_split_slot ["slot"] (sp_split K) := by
  refine T.F_split_slot.ok sc_split_slot (fun vs H Q E h => ?_) (fun cdv A outer s H vs Q E hr h => ?_)
  · obtain ⟨z, rfl, _⟩ := h
    rfl
  · obtain ⟨z, rfl, hz, q0, q1⟩ := h
    refine ⟨_, (pss_cons (ps_if (pt_not (pt_val (pe_call (ok_is_slot_name T) (hr.mono (by decide)) (by rfl) T.g_is_slot_name T.F_is_slot_name.kp T.b_is_slot_name .nil pass0 (pa_cons (pv 0) pa_nil)))) (pss_one (ps_ret pe_non)) pss_nil)
      (pss_one (ps_ret (pe_tup (pa_cons (pe_slice sl_str (pv 0) po_none (po_some (pe_un un_neg pe_int))) (pa_cons (pe_callTy call_int_str (by rfl) T.n_int (by decide +kernel) (pa_cons (pe_ix ix_str (pv 0) (pe_un un_neg pe_int) (fun _ _ => rfl)) pa_nil)) pa_nil)))))), ?_⟩
    refine ⟨_, rfl, _, rfl, .inl ⟨z, ⟨rfl, hz⟩, fun H1 s1 => ⟨_, rfl, ?_⟩⟩⟩
    refine ifb2 (fun h => ?_) (fun h => ?_)
    · have h' : slotOk z = false := by cases e : slotOk z with | true => rw [e] at h; cases h | false => rfl
      exact q0 h' H1 s1
    · have h' : slotOk z = true := by cases e : slotOk z with | false => rw [e] at h; cases h | true => rfl
      obtain ⟨c, hc, hd⟩ := slot_digit h'
      refine ⟨_, rfl, _, rfl, _, rfl, z, rfl, sz hz, ?_⟩
      refine ⟨_, rfl, _, rfl, z, _, c, rfl, rfl, sz hz, hc, _, _, rfl, dig_int hd, (by show 1 ≤ 640; decide), (by show 2 ≤ sizeLine; decide), fun p hp => ?_⟩
      refine q1 h' p _ (s1.free hp) (s1.trans (same_upd hp)) ?_
      rw [upd_same]
      unfold digitOf headS
      rw [hc]
      rfl
end
/-! an int that is no bool -/
def sp_isint : Sp := fun vs H Q _ => ∃ (i : Int), vs = [.int i] ∧ Q (.bl true) H
section
variable {P : Program} {w : World} {K : PySem.W.Frag} {mg : Str → Option Value} {base : Heap}
theorem ok__law_is_integer (T : TX K mg) : FnOk P w K mg base CX0 1 T.a__law_is_integer T.d__law_is_integer ["actual"] sp_isint := by
  refine T.F__law_is_integer.ok sc__law_is_integer (fun vs H Q E h => ?_) (fun cdv A outer s H vs Q E hr h => ?_)
  · obtain ⟨i, rfl, _⟩ := h
    rfl
  · obtain ⟨i, rfl, q⟩ := h
    refine ⟨_, (pss_one (ps_ret (pe_and (pe_callB call_isi (by rfl) T.n_isinstance (by decide +kernel) (pa_cons (pv 0) (pa_cons (pe_bltn (v := .ty "int") (u := .type "int") (by rfl) T.n_int (by decide +kernel) rfl) pa_nil))) (pe_one (pe_not (pe_callB call_isi (by rfl) T.n_isinstance (by decide +kernel) (pa_cons (pv 0) (pa_cons (pe_bltn (v := .ty "bool") (u := .type "bool") (by rfl) T.n_bool (by decide +kernel) rfl) pa_nil)))))))), ?_⟩
    refine ⟨.int i, rfl, .int i, .ty "int", .type "int", .type "int", true, rfl, .ty _, .base (.int i), kit_ty (by decide +kernel), true, rfl, ifbt rfl ?_⟩
    refine ⟨.int i, rfl, .int i, .ty "bool", .type "int", .type "bool", false, rfl, .ty _, .base (.int i), kit_ty (by decide +kernel), false, rfl, ?_⟩
    exact q
end
/-! the draws of a script: many numbers from 0 to 996 -/
def Drawn (ds : List Int) : Prop := ∀ d ∈ ds, 0 ≤ d ∧ d < 997
theorem drawn_app {ds es : List Int} (h : Drawn ds) (g : Drawn es) : Drawn (ds ++ es) := fun d hd => (List.mem_append.mp hd).elim (h d) (g d)
theorem drawn_one {d : Int} (h : 0 ≤ d) (g : d < 997) : Drawn [d] := fun e he => by rw [List.mem_singleton] at he; subst he; exact ⟨h, g⟩
theorem drawn_take {ds : List Int} (n : Nat) (h : Drawn ds) : Drawn (ds.take n) := fun d hd => h d (List.mem_of_mem_take hd)
def sp_draws (K : PySem.W.Frag) : Sp := fun vs H Q _ => ∃ (a : Addr) (ns : List Int) (many : Nat), vs = [.ref a, .int (many : Int)] ∧ SqL K H a (ns.map V.int) ∧ ns.length ≤ 63 ∧ many ≤ 1000 ∧
  ∀ (p : Addr) (H' : Hp) (ds : List Int), H p = none → Same H H' → H' p = some (.lst (ds.map V.int)) → Drawn ds → ds.length = many → Q (.ref p) H'
section
variable {P : Program} {w : World} {K : PySem.W.Frag} {mg : Str → Option Value} {base : Heap}
theorem ok__law_draws (T : TX K mg) : FnOk P w K mg base CX0 1 T.a__law_draws T.d__law_draws ["script", "many"] (sp_draws K) := by
  refine T.F__law_draws.ok sc__law_draws (fun vs H Q E h => ?_) (fun cdv A outer s H vs Q E hr h => ?_)
  · obtain ⟨a, ns, many, rfl, _⟩ := h
    rfl
  · obtain ⟨a, ns, many, rfl, hS, hlen, hm, q⟩ := h
    refine ⟨_, (pss_cons (ps_set (i := 2) sc__law_draws.nd rfl (Or.inl rfl) (pe_lst pa_nil))
      (pss_cons (ps_set (i := 3) sc__law_draws.nd rfl (Or.inl rfl) pe_int)
      (pss_cons (ps_for PassesOwn.never rfl (pi_range1 (by rfl) T.n_range (pa_cons (pe_callB call_len_seq (by rfl) T.n_len PySem.boot_len (pa_cons (pv 0) pa_nil)) pa_nil)) (pg_name (i := 4) sc__law_draws.nd rfl (Or.inl rfl))
        (pss_cons (ps_set (i := 5) sc__law_draws.nd rfl (Or.inl rfl) (pe_callB call_abs (by rfl) T.n_abs (by decide +kernel) (pa_cons (pe_callTy call_int1 (by rfl) T.n_int (by decide +kernel) (pa_cons (pe_ix ix_list (pv 0) (pv 4) (fun _ _ => rfl)) pa_nil)) pa_nil)))
        (pss_cons (ps_set (i := 3) sc__law_draws.nd rfl (Or.inl rfl) (pe_op op_mod (pe_callTy call_int1 (by rfl) T.n_int (by decide +kernel) (pa_cons (pe_op op_add (pe_op op_add (pe_op op_mul (pv 3) pe_int) (pe_op op_mod (pv 5) pe_int)) (pv 4)) pa_nil)) pe_int))
        (pss_cons (ps_set (i := 6) sc__law_draws.nd rfl (Or.inl rfl) pe_int)
        (C8.pss_cut (ps_if (pt_cmpR op_ge (pv 5) (pe_op op_pow pe_int pe_int) (nomark _)) (pss_one (ps_set (i := 6) sc__law_draws.nd rfl (Or.inl rfl) (pv 5))) (pss_cons (ps_expr (pe_bm PySem.F.plainAttrs_list PySem.F.slot_list_append PySem.F.type_list_append mt_append (pv 2) (pa_cons (pe_op op_mod (pv 5) pe_int) pa_nil)))
          (pss_one (ps_expr (pe_bm PySem.F.plainAttrs_list PySem.F.slot_list_append PySem.F.type_list_append mt_append (pv 2) (pa_cons (pe_op op_mod (pe_op op_mod (pe_callTy call_int1 (by rfl) T.n_int (by decide +kernel) (pa_cons (pe_op op_add (pe_op op_mul (pv 3) pe_int) pe_int) pa_nil)) pe_int) pe_int) pa_nil))))))
        (pss_one (ps_for PassesOwn.never rfl (pi_range1 (by rfl) T.n_range (pa_cons pe_int pa_nil)) (pg_name (i := 7) sc__law_draws.nd rfl (Or.inl rfl))
          (pss_one (ps_if (pt_cmpR op_gt (pv 6) pe_int (nomark _)) (pss_cons (ps_expr (pe_bm PySem.F.plainAttrs_list PySem.F.slot_list_append PySem.F.type_list_append mt_append (pv 2) (pa_cons (pe_op op_mod (pe_callTy call_int1 (by rfl) T.n_int (by decide +kernel) (pa_cons (pv 6) pa_nil)) pe_int) pa_nil)))
            (pss_one (ps_set (i := 6) sc__law_draws.nd rfl (Or.inl rfl) (pe_op op_fdiv (pv 6) pe_int)))) pss_nil)))))))))
      (pss_cons (ps_for PassesOwn.never rfl (pi_range1 (by rfl) T.n_range (pa_cons (pv 1) pa_nil)) (pg_name (i := 4) sc__law_draws.nd rfl (Or.inl rfl))
        (pss_cons (ps_set (i := 3) sc__law_draws.nd rfl (Or.inl rfl) (pe_op op_mod (pe_callTy call_int1 (by rfl) T.n_int (by decide +kernel) (pa_cons (pe_op op_add (pe_op op_add (pe_op op_mul (pv 3) pe_int) (pv 4)) pe_int) pa_nil)) pe_int))
        (pss_one (ps_expr (pe_bm PySem.F.plainAttrs_list PySem.F.slot_list_append PySem.F.type_list_append mt_append (pv 2) (pa_cons (pe_op op_mod (pe_callTy call_int1 (by rfl) T.n_int (by decide +kernel) (pa_cons (pv 3) pa_nil)) pe_int) pa_nil))))))
      (pss_one (ps_ret (pe_slice sl_list (pv 2) po_none (po_some (pv 1))))))))), ?_⟩
    refine ⟨Nat.zero_le _, fun o ho => ?_⟩
    have s1 := same_upd (o := .lst []) ho
    -- each cell
    refine ⟨_, rfl, a, _, rfl, .inl (s1.seq hS), _, rfl, by rw [List.length_map]; omega, by rw [List.length_map]; omega, for_range (lo := 0) (n := _) (fun i σ H2 => ∃ (ds : List Int) (mx : Int) (x4 x5 x6 x7 : Option V), σ = [some (.ref a), some (.int (many : Int)), some (.ref o), some (.int mx), x4, x5, x6, x7] ∧ Same H H2 ∧ H2 o = some (.lst (ds.map V.int)) ∧ Drawn ds ∧ ds.length ≤ 62 * i)
      ⟨[], 7, none, none, none, none, rfl, s1, upd_same, (fun _ h => by cases h), Nat.le_refl _⟩ ?_ ?_⟩
    · rintro i σ H2 hi ⟨ds, mx, x4, x5, x6, x7, rfl, g1, g2, g3, g4⟩
      rw [List.length_map] at hi
      have hi' : i < ns.length := by omega
      have hg : ns[i]? = some ns[i] := List.getElem?_eq_getElem hi'
      have ha : atI (ns.map V.int) (0 + (i : Int)) = some (.int ns[i]) := by rw [Int.zero_add]; exact at_map hg
      generalize ns[i] = c at ha
      -- cell, mixed
      refine ⟨_, rfl, _, rfl, a, _, _, _, rfl, rfl, g1.seq hS, ha, .inl ⟨_, rfl, _, rfl, ?_⟩⟩
      dsimp only
      have hc : 0 ≤ (if c < 0 then -c else c) := by split <;> omega
      generalize (if c < 0 then -c else c) = cell at hc
      refine ⟨_, rfl, _, _, rfl, rfl, .inr ⟨by decide, by decide⟩, _, rfl, _, _, rfl, rfl, (by show (0 : Int) < _; decide), _, _, rfl, rfl, _, rfl, _, _, rfl, rfl, .inl ⟨_, rfl, _, _, rfl, rfl, (by show (0 : Int) < _; decide), ?_⟩⟩
      dsimp only
      generalize (mx * 48271 + cell % 1000003 + (0 + (i : Int))) % 65537 = mx2
      -- rest = 0; if cell >= 10 ** 18
      refine ⟨fun σ' H' => ∃ (ds' : List Int) (rest : Int) , 0 ≤ rest ∧ σ' = [some (.ref a), some (.int (many : Int)), some (.ref o), some (.int mx2), some (.int (0 + (i : Int))), some (.int cell), some (.int rest), x7] ∧ Same H H' ∧ H' o = some (.lst (ds'.map V.int)) ∧ Drawn ds' ∧ ds'.length ≤ 62 * i + 2, ?_, ?_⟩
      · refine ⟨_, rfl, _, _, rfl, rfl, ⟨by decide, by decide, by decide⟩, _, _, rfl, rfl, _, rfl, ifd (fun hb => ?_) (fun hb => ?_)⟩
        · exact ⟨_, rfl, ds, cell, hc, rfl, g1, g2, g3, by omega⟩
        · refine ⟨_, rfl, .inl ⟨rfl, _, sql g2⟩, _, rfl, _, _, rfl, rfl, (by show (0 : Int) < _; decide), o, _, _, rfl, rfl, g2, szl (by rw [List.length_map]; omega), ?_⟩
          refine ⟨_, rfl, .inl ⟨rfl, _, sql upd_same⟩, _, rfl, _, _, rfl, rfl, .inr ⟨by decide, by decide⟩, _, _, rfl, rfl, .inl ⟨_, rfl, _, _, rfl, rfl, (by show (0 : Int) < _; decide), _, _, rfl, rfl, (by show (0 : Int) < _; decide), o, _, _, rfl, rfl, upd_same, szl (by rw [List.length_append, List.length_map]; simp only [List.length_cons, List.length_nil]; omega), ?_⟩⟩
          refine ⟨ds ++ [cell % 997, (mx2 * 69621 + 5) % 65521 % 997], 0, Int.le_refl _, rfl, same_put (same_put g1 ho) ho, ?_, drawn_app g3 fun d hd => ?_, by rw [List.length_append]; simp only [List.length_cons, List.length_nil]; omega⟩
          · rw [upd_same, List.map_append, List.append_assoc]
            rfl
          · simp only [List.mem_cons, List.not_mem_nil, or_false] at hd
            rcases hd with rfl | rfl
            · exact ⟨Int.emod_nonneg _ (by decide), Int.emod_lt_of_pos _ (by decide)⟩
            · exact ⟨Int.emod_nonneg _ (by decide), Int.emod_lt_of_pos _ (by decide)⟩
      rintro σ' H' ⟨ds', rest, hr0, rfl, k1, k2, k3, k4⟩
      -- sixty times
      refine ⟨60, rfl, by decide, by decide, for_range (lo := 0) (n := 60) (fun j σ H3 => ∃ (es : List Int) (rest : Int) (x7 : Option V), 0 ≤ rest ∧ σ = [some (.ref a), some (.int (many : Int)), some (.ref o), some (.int mx2), some (.int (0 + (i : Int))), some (.int cell), some (.int rest), x7] ∧ Same H H3 ∧ H3 o = some (.lst (es.map V.int)) ∧ Drawn es ∧ es.length ≤ 62 * i + 2 + j)
        ⟨ds', rest, x7, hr0, rfl, k1, k2, k3, k4⟩ ?_ ?_⟩
      · rintro j σ H3 hj ⟨es, rest, x7, h0, rfl, k1, k2, k3, k4⟩
        refine ⟨_, rfl, _, _, rfl, rfl, _, rfl, ifd (fun hb => ?_) (fun hb => ?_)⟩
        · refine ⟨_, rfl, .inl ⟨rfl, _, sql k2⟩, _, rfl, .inl ⟨_, rfl, _, _, rfl, rfl, (by show (0 : Int) < _; decide), o, _, _, rfl, rfl, k2, szl (by rw [List.length_map]; omega), ?_⟩⟩
          refine ⟨_, rfl, _, _, rfl, rfl, ⟨by decide, by decide⟩, ?_⟩
          refine ⟨es ++ [rest % 997], rest / 997, some (.int (0 + (j : Int))), Int.ediv_nonneg h0 (by decide), rfl, same_put k1 ho, ?_, drawn_app k3 (drawn_one (Int.emod_nonneg _ (by decide)) (Int.emod_lt_of_pos _ (by decide))), by rw [List.length_append]; simp only [List.length_cons, List.length_nil]; omega⟩
          rw [upd_same, List.map_append]
          rfl
        · exact ⟨es, rest, some (.int (0 + (j : Int))), h0, rfl, k1, k2, k3, by omega⟩
      · rintro σ H3 ⟨es, rest, x7, h0, rfl, k1, k2, k3, k4⟩
        exact ⟨es, mx2, _, _, _, _, rfl, k1, k2, k3, by omega⟩
    · rintro σ H2 ⟨ds, mx, x4, x5, x6, x7, rfl, g1, g2, g3, g4⟩
      have hl0 : ds.length ≤ 4000 := by
        simp only [List.length_map] at g4
        omega
      refine ⟨_, rfl, (many : Int), rfl, by omega, by omega, for_range (lo := 0) (n := (many : Int).toNat) (fun i σ H3 => ∃ (es : List Int) (mx : Int) (x4 : Option V), σ = [some (.ref a), some (.int (many : Int)), some (.ref o), some (.int mx), x4, x5, x6, x7] ∧ Same H H3 ∧ H3 o = some (.lst (es.map V.int)) ∧ Drawn es ∧ es.length = ds.length + i)
        ⟨ds, mx, x4, rfl, g1, g2, g3, rfl⟩ ?_ ?_⟩
      · rintro i σ H3 hi ⟨es, mx, x4, rfl, k1, k2, k3, k4⟩
        refine ⟨_, rfl, _, _, rfl, rfl, .inr ⟨by decide, by decide⟩, _, rfl, _, _, rfl, rfl, _, _, rfl, rfl, .inl ⟨_, rfl, _, _, rfl, rfl, (by show (0 : Int) < _; decide), ?_⟩⟩
        refine ⟨_, rfl, .inl ⟨rfl, _, sql k2⟩, _, rfl, .inl ⟨_, rfl, _, _, rfl, rfl, (by show (0 : Int) < _; decide), o, _, _, rfl, rfl, k2, szl (by rw [List.length_map]; omega), ?_⟩⟩
        refine ⟨es ++ [(mx * 16807 + (0 + (i : Int)) + 1) % 65537 % 997], (mx * 16807 + (0 + (i : Int)) + 1) % 65537, some (.int (0 + (i : Int))), rfl, same_put k1 ho, ?_, drawn_app k3 (drawn_one (Int.emod_nonneg _ (by decide)) (Int.emod_lt_of_pos _ (by decide))), by rw [List.length_append, k4]; simp only [List.length_cons, List.length_nil]; omega⟩
        rw [upd_same, List.map_append]
        rfl
      · rintro σ H3 ⟨es, mx, x4, rfl, k1, k2, k3, k4⟩
        refine ⟨_, rfl, _, rfl, _, rfl, o, _, rfl, sql k2, fun p hp => ?_⟩
        refine q p _ (es.take many) (k1.free hp) (k1.trans (same_upd hp)) ?_ (drawn_take _ k3) (by rw [List.length_take]; omega)
        rw [upd_same, cut0n, List.map_take]
end
/-! the law's own words -/
theorem name_cps (z : Str) : nameOk z = (decide (1 ≤ z.cps.toList.length ∧ z.cps.toList.length ≤ 12) && z.cps.toList.all fun c => decide (c ∈ alphaL)) := rfl
theorem lt_space (c : Nat) : decide ((⟨#[c]⟩ : Str).cps.toList < (" " : Str).cps.toList) = decide (c < 32) := by
  have e : (" " : Str).cps.toList = [32] := by decide +kernel
  rw [e]
  show decide ([c] < [32]) = _
  rw [Bool.eq_iff_iff]
  simp [List.cons_lt_cons_iff]
theorem gt_tilde (c : Nat) : decide (("~" : Str).cps.toList < (⟨#[c]⟩ : Str).cps.toList) = decide (126 < c) := by
  have e : ("~" : Str).cps.toList = [126] := by decide +kernel
  rw [e]
  show decide ([126] < [c]) = _
  rw [Bool.eq_iff_iff]
  simp [List.cons_lt_cons_iff]
theorem slot_whole {z : Str} (h : slotOk z = true) : headS z ++ ("/" : Str) ++ toString ((digitOf z : Nat) : Int) = z := by
  obtain ⟨c, hc, hd⟩ := slot_digit h
  have h47 : atI z.cps.toList (-2) = some 47 := by
    unfold slotOk at h
    rw [Bool.and_eq_true, Bool.and_eq_true, Bool.and_eq_true] at h
    exact of_decide_eq_true h.2.2.1
  have h3 : 3 ≤ z.cps.toList.length := by
    unfold slotOk at h
    rw [Bool.and_eq_true] at h
    exact of_decide_eq_true h.1
  have hdg : (toString ((digitOf z : Nat) : Int) : Str).cps.toList = [c] := by
    unfold digitOf
    rw [hc]
    have : ∀ c ∈ digitL, (toString (((some c).getD 0 - 48 : Nat) : Int) : Str).cps.toList = [c] := by decide +kernel
    exact this c hd
  apply str_ext
  rw [str_app, str_app, head_list, hdg]
  have sl : ("/" : Str).cps.toList = [47] := by decide +kernel
  rw [sl]
  generalize z.cps.toList = L at hc h47 h3
  have e1 : L[L.length - 1]? = some c := by
    unfold atI ixN at hc
    rw [if_neg (by omega), if_pos (by omega)] at hc
    have : (-1 + (L.length : Int)).toNat = L.length - 1 := by omega
    rw [this] at hc
    exact hc
  have e2 : L[L.length - 2]? = some 47 := by
    unfold atI ixN at h47
    rw [if_neg (by omega), if_pos (by omega)] at h47
    have : (-2 + (L.length : Int)).toNat = L.length - 2 := by omega
    rw [this] at h47
    exact h47
  have t1 := take_more e2
  have t2 := take_more e1
  rw [show L.length - 2 + 1 = L.length - 1 by omega] at t1
  rw [show L.length - 1 + 1 = L.length by omega, List.take_length] at t2
  rw [← t1, ← t2]
def Asc (z : Str) : Prop := ∀ c ∈ z.cps.toList, c < 128
theorem asc_app {a b : Str} (h : Asc a) (g : Asc b) : Asc (a ++ b) := fun c hc => by
  rw [str_app] at hc
  exact (List.mem_append.mp hc).elim (h c) (g c)
theorem asc_cut {a : Str} (lo hi : Option Int) (h : Asc a) : Asc (cutS a lo hi) := fun c hc => h c (by
  unfold cutS at hc
  exact List.mem_of_mem_drop (List.mem_of_mem_take (by simpa using hc)))
theorem asc_ok {z : Str} (h : Asc z) : (PyData.str z).canLay0 = true := by
  show PySem.PyData.strOk z = true
  unfold PyData.strOk
  rw [← Array.all_toList, List.all_eq_true]
  intro c hc
  exact decide_eq_true (Nat.lt_trans (h c hc) (by decide))
def sp_says : Sp := fun vs H Q _ => ∃ a : Bool, vs = [.bl a, .bl a] ∧ Q (.bl true) H
section
variable {P : Program} {w : World} {K : PySem.W.Frag} {mg : Str → Option Value} {base : Heap}
theorem ok__law_is_name (T : TX K mg) : FnOk P w K mg base CX0 1 T.a__law_is_name T.d__law_is_name ["word"] (sp_str nameOk) := by
  refine T.F__law_is_name.ok sc__law_is_name (fun vs H Q E h => ?_) (fun cdv A outer s H vs Q E hr h => ?_)
  · obtain ⟨z, rfl, _⟩ := h
    rfl
  · obtain ⟨z, rfl, hz, q⟩ := h
    refine ⟨_, (pss_cons (ps_if (PW.pt (pw_or (pt_cmpR op_lt (pe_callB call_len_str (by rfl) T.n_len PySem.boot_len (pa_cons (pv 0) pa_nil)) pe_int (nomark _)) (pw_or1 (pt_cmpR op_gt (pe_callB call_len_str (by rfl) T.n_len PySem.boot_len (pa_cons (pv 0) pa_nil)) pe_int (nomark _))))) (pss_one (ps_ret pe_bl)) pss_nil)
      (pss_cons (ps_for PassesOwn.never rfl (pi_str (pv 0)) (pg_name (i := 1) sc__law_is_name.nd rfl (Or.inl rfl))
        (pss_one (ps_if (pt_cmpR op_notIn_sign (pv 1) pe_str rfl) (pss_one (ps_ret pe_bl)) pss_nil)))
      (pss_one (ps_ret pe_bl)))), ?_⟩
    have hl := zlen z
    refine ⟨_, rfl, _, rfl, sz hz, _, _, rfl, rfl, _, rfl, ifd (fun h1 => ?_) (fun h1 => ?_)⟩
    · have h1' : ((z.length : Nat) : Int) < 1 := h1
      rw [name_cps, decide_eq_false (by omega), Bool.false_and] at q
      exact q
    · have h1' : ¬ ((z.length : Nat) : Int) < 1 := h1
      refine ⟨_, rfl, _, rfl, sz hz, _, _, rfl, rfl, _, rfl, ifd (fun h2 => ?_) (fun h2 => ?_)⟩
      · have h2' : (12 : Int) < ((z.length : Nat) : Int) := h2
        rw [name_cps, decide_eq_false (by omega), Bool.false_and] at q
        exact q
      · have h2' : ¬ (12 : Int) < ((z.length : Nat) : Int) := h2
        rw [name_cps, decide_eq_true (by omega), Bool.true_and] at q
        refine ⟨_, rfl, z, rfl, for_it walk_str (fun i σ H2 => H = H2 ∧ ((z.cps.toList.take i).all fun c => decide (c ∈ alphaL)) = true ∧ ∃ x1, σ = [some (.str z), x1]) ⟨rfl, rfl, none, rfl⟩ (fun _ _ _ _ _ => trivial) ?_ ?_⟩
        · rintro i x σ _ _ hi ⟨rfl, ha, x1, rfl⟩ ⟨rfl, c, hc, rfl⟩
          have hm := all_take (f := fun c => decide (c ∈ alphaL)) (cps_at hc)
          rw [ha, Bool.true_and] at hm
          refine ⟨_, rfl, _, _, rfl, rfl, _, rfl, ifn (fun h3 => ?_) (fun h3 => ?_)⟩
          · have h3' : ¬ c ∈ alphaL := h3
            have : (z.cps.toList.all fun c => decide (c ∈ alphaL)) = false := by
              rw [List.all_eq_false]
              exact ⟨c, List.mem_of_getElem? (cps_at hc), by simp [h3']⟩
            rw [this] at q
            exact q
          · have h3' : c ∈ alphaL := h3
            exact ⟨rfl, by rw [hm]; simp [h3'], _, rfl⟩
        · rintro σ _ ⟨rfl, ha, x1, rfl⟩
          rw [sizeL, List.take_length] at ha
          rw [ha] at q
          exact q
theorem ok__law_is_slot (T : TX K mg) : FnOk P w K mg base CX0 2 T.a__law_is_slot T.d__law_is_slot ["word"] (sp_str slotOk) := by
  refine T.F__law_is_slot.ok sc__law_is_slot (fun vs H Q E h => ?_) (fun cdv A outer s H vs Q E hr h => ?_)
  · obtain ⟨z, rfl, _⟩ := h
    rfl
  · obtain ⟨z, rfl, hz, q⟩ := h
    refine ⟨_, (pss_cons (ps_if (PW.pt (pw_or (pt_cmpR op_lt (pe_callB call_len_str (by rfl) T.n_len PySem.boot_len (pa_cons (pv 0) pa_nil)) pe_int (nomark _)) (pw_or (pt_cmpR op_ne (pe_ix ix_str (pv 0) (pe_un un_neg pe_int) (fun _ _ => rfl)) pe_str (nomark _)) (pw_or1 (pt_cmpR op_notIn_sign (pe_ix ix_str (pv 0) (pe_un un_neg pe_int) (fun _ _ => rfl)) pe_str rfl))))) (pss_one (ps_ret pe_bl)) pss_nil)
      (pss_one (ps_ret (pe_call (ok__law_is_name T) (hr.mono (by decide)) (by rfl) T.g__law_is_name T.F__law_is_name.kp T.b__law_is_name .nil pass0 (pa_cons (pe_slice sl_str (pv 0) po_none (po_some (pe_un un_neg pe_int))) pa_nil))))), ?_⟩
    have hl := zlen z
    refine ⟨_, rfl, _, rfl, sz hz, _, _, rfl, rfl, _, rfl, ifd (fun h1 => ?_) (fun h1 => ?_)⟩
    · have h1' : ((z.length : Nat) : Int) < 3 := h1
      unfold slotOk at q
      rw [decide_eq_false (by omega), Bool.false_and] at q
      exact q
    · have h1' : ¬ ((z.length : Nat) : Int) < 3 := h1
      obtain ⟨c, hc⟩ : ∃ c, atI z.cps.toList (-1) = some c := at_neg 1 (by decide) (by omega)
      obtain ⟨d, hd⟩ : ∃ d, atI z.cps.toList (-2) = some d := at_neg 2 (by decide) (by omega)
      have e0 : slotOk z = (decide (c ∈ digitL) && (decide (d = 47) && nameOk (headS z))) := by
        unfold slotOk
        rw [hc, hd, decide_eq_true (show 3 ≤ z.cps.toList.length by omega), Bool.true_and]
        congr 1
        · simp
        · congr 1
          simp
      rw [e0] at q
      refine ⟨_, rfl, _, rfl, z, _, d, rfl, rfl, sz hz, hd, rfl, _, rfl, ifn (fun h2 => ?_) (fun h2 => ?_)⟩
      · have h2' : ¬ d = 47 := fun e => h2 (by rw [e]; rfl)
        rw [decide_eq_false h2', Bool.false_and, Bool.and_false] at q
        exact q
      · have h2' : d = 47 := sign_inj (V.str.inj h2)
        rw [decide_eq_true h2', Bool.true_and] at q
        refine ⟨_, rfl, _, rfl, z, _, c, rfl, rfl, sz hz, hc, _, _, rfl, rfl, _, rfl, ifn (fun h3 => ?_) (fun h3 => ?_)⟩
        · have h3' : ¬ c ∈ digitL := h3
          rw [decide_eq_false h3', Bool.false_and] at q
          exact q
        · have h3' : c ∈ digitL := h3
          rw [decide_eq_true h3', Bool.true_and] at q
          exact ⟨_, rfl, _, rfl, _, rfl, z, rfl, sz hz, _, rfl, Nat.le_trans (cutS_length z _ _) hz, q⟩
theorem ok__law_is_text (T : TX K mg) : FnOk P w K mg base CX0 1 T.a__law_is_text T.d__law_is_text ["word"] (sp_str textOk) := by
  refine T.F__law_is_text.ok sc__law_is_text (fun vs H Q E h => ?_) (fun cdv A outer s H vs Q E hr h => ?_)
  · obtain ⟨z, rfl, _⟩ := h
    rfl
  · obtain ⟨z, rfl, hz, q⟩ := h
    refine ⟨_, (pss_cons (ps_for PassesOwn.never rfl (pi_str (pv 0)) (pg_name (i := 1) sc__law_is_text.nd rfl (Or.inl rfl))
        (pss_one (ps_if (PW.pt (pw_or (pt_cmpR op_lt_str (pv 1) pe_str (nomark _)) (pw_or (pt_cmpR op_gt_str (pv 1) pe_str (nomark _)) (pw_or1 (pt_cmpR op_eq (pe_callB call_ord (by rfl) T.n_ord (by decide +kernel) (pa_cons (pv 1) pa_nil)) pe_int (nomark _)))))) (pss_one (ps_ret pe_bl)) pss_nil)))
      (pss_one (ps_ret (pe_cmpR op_le (pe_callB call_len_str (by rfl) T.n_len PySem.boot_len (pa_cons (pv 0) pa_nil)) pe_int (nomark _))))), ?_⟩
    refine ⟨_, rfl, z, rfl, for_it walk_str (fun i σ H2 => H = H2 ∧ (z.cps.toList.take i).all plainC = true ∧ ∃ x1, σ = [some (.str z), x1]) ⟨rfl, rfl, none, rfl⟩ (fun _ _ _ _ _ => trivial) ?_ ?_⟩
    · rintro i x σ _ _ hi ⟨rfl, ha, x1, rfl⟩ ⟨rfl, c, hc, rfl⟩
      have hm := all_take (f := plainC) (cps_at hc)
      rw [ha, Bool.true_and] at hm
      have hno : plainC c = false → textOk z = false := fun h => by
        unfold textOk plainS
        rw [Bool.and_eq_false_iff]
        right
        rw [List.all_eq_false]
        exact ⟨c, List.mem_of_getElem? (cps_at hc), by rw [h]; simp⟩
      refine ⟨_, rfl, _, _, rfl, rfl, _, rfl, ?_⟩
      dsimp only
      rw [lt_space]
      refine ifd (fun h1 => ?_) (fun h1 => ?_)
      · refine (if_pos rfl).mpr ?_
        rw [hno (by unfold plainC; simp [h1])] at q
        exact q
      · refine ⟨_, rfl, _, _, rfl, rfl, _, rfl, ?_⟩
        dsimp only
        rw [gt_tilde]
        refine ifd (fun h2 => ?_) (fun h2 => ?_)
        · refine (if_pos rfl).mpr ?_
          rw [hno (by unfold plainC; simp [h2])] at q
          exact q
        · refine ⟨_, rfl, _, rfl, rfl, rfl, _, rfl, ifd (fun h3 => ?_) (fun h3 => ?_)⟩
          · have h3' : ((c : Nat) : Int) = 37 := V.int.inj h3
            rw [hno (by unfold plainC; simp [show c = 37 by omega])] at q
            exact q
          · have h3' : ¬ ((c : Nat) : Int) = 37 := fun z => h3 (by show V.int _ = V.int _; rw [← z]; rfl)
            refine ⟨rfl, ?_, _, rfl⟩
            rw [hm]
            unfold plainC
            simp only [Bool.not_eq_true', Bool.or_eq_false_iff, decide_eq_false_iff_not]
            omega
    · rintro σ _ ⟨rfl, ha, x1, rfl⟩
      rw [sizeL, List.take_length] at ha
      refine ⟨_, rfl, _, rfl, sz hz, _, _, rfl, rfl, ?_⟩
      unfold textOk plainS at q
      rw [ha, Bool.and_true] at q
      have e : decide (z.cps.toList.length ≤ 40) = decide (((z.length : Nat) : Int) ≤ 40) := by
        rw [Bool.eq_iff_iff, zlen]; simp
        omega
      rw [e] at q
      exact q
theorem ok__law_says (T : TX K mg) : FnOk P w K mg base CX0 1 T.a__law_says T.d__law_says ["actual", "expected"] sp_says := by
  refine T.F__law_says.ok sc__law_says (fun vs H Q E h => ?_) (fun cdv A outer s H vs Q E hr h => ?_)
  · obtain ⟨a, rfl, _⟩ := h
    rfl
  · obtain ⟨a, rfl, q⟩ := h
    refine ⟨_, (pss_one (ps_ret (pe_and (pe_callB call_isi (by rfl) T.n_isinstance (by decide +kernel) (pa_cons (pv 0) (pa_cons (pe_bltn (v := .ty "bool") (u := .type "bool") (by rfl) T.n_bool (by decide +kernel) rfl) pa_nil))) (pe_one (pe_cmpR op_eq (pv 0) (pv 1) (nomark _)))))), ?_⟩
    refine ⟨_, rfl, .bl a, .ty "bool", .type "bool", .type "bool", true, rfl, .ty _, .base (.bl a), kit_ty (by decide +kernel), _, rfl, ifbt rfl ?_⟩
    refine ⟨_, rfl, _, rfl, rfl, ?_⟩
    rw [decide_eq_true rfl]
    exact q
end
/-! one word of the law -/
def charsS : Str := "abcz09/AZ _-~\n"
theorem chars_at {j : Nat} (h : j < 14) : ∃ c, charsS.cps.toList[j]? = some c ∧ c < 128 := by
  have z : ∀ j, j < 14 → (charsS.cps.toList[j]?.any fun c => decide (c < 128)) = true := by decide +kernel
  have := z j h
  cases e : charsS.cps.toList[j]? with
  | none => rw [e] at this; cases this
  | some c => rw [e] at this; exact ⟨c, rfl, of_decide_eq_true this⟩
theorem chars_ix {i : Int} (h0 : 0 ≤ i) (h : i < 14) : ∃ c, atI charsS.cps.toList i = some c ∧ c < 128 := by
  obtain ⟨c, h1, h2⟩ := chars_at (j := i.toNat) (by omega)
  refine ⟨c, ?_, h2⟩
  have := atI_nat h1
  rwa [Int.toNat_of_nonneg h0] at this
theorem draw_at {ds : List Int} {j : Nat} (h : j < ds.length) : atI (ds.map V.int) (j : Int) = some (.int (ds.getD j 0)) := by
  refine at_map ?_
  rw [List.getD_eq_getElem?_getD, List.getElem?_eq_getElem h]
  rfl
theorem draw_ix {ds : List Int} {i : Int} (h0 : 0 ≤ i) (h : i < ds.length) : ∃ d, atI (ds.map V.int) i = some (.int d) ∧ d ∈ ds := by
  refine ⟨ds[i.toNat], ?_, List.getElem_mem _⟩
  have := at_map (f := V.int) (List.getElem?_eq_getElem (show i.toNat < ds.length by omega))
  rwa [Int.toNat_of_nonneg h0] at this
theorem joinL_nil : ∀ cs : List Nat, TL.joinL [] (cs.map fun c => [c]) = cs
  | [] => rfl
  | [c] => rfl
  | c :: d :: r => by
    show [c] ++ ([] ++ TL.joinL [] ((d :: r).map fun c => [c])) = _
    rw [joinL_nil (d :: r)]
    rfl
theorem join_signs (cs : List Nat) : Txt.join ("" : Str) (cs.map fun c => (⟨#[c]⟩ : Str)) = ⟨cs.toArray⟩ := by
  have h := SX.join_S [] (cs.map fun c => [c])
  rw [joinL_nil, List.map_map] at h
  have e : ("" : Str) = SX.S [] := by decide +kernel
  rw [e]
  exact h
theorem signs_len (cs : List Nat) : ((cs.map fun c => (⟨#[c]⟩ : Str)).map (·.length)).sum = cs.length := by
  induction cs with
  | nil => rfl
  | cons c cs ih => rw [List.map_cons, List.map_cons, List.sum_cons, ih, List.length_cons]; show 1 + _ = _; omega
theorem sign_len (c : Nat) : (⟨#[c]⟩ : Str).length = 1 := rfl
theorem asc_sign {c : Nat} (h : c < 128) : Asc ⟨#[c]⟩ := fun d hd => by
  have : d = c := by simpa using hd
  omega
def sp_word (K : PySem.W.Frag) : Sp := fun vs H Q _ => ∃ (a : Addr) (ds : List Int), vs = [.ref a] ∧ SqL K H a (ds.map V.int) ∧ ds.length = 17 ∧ Drawn ds ∧ ∀ z H', Same H H' → z.length ≤ 200 → Asc z → Q (.str z) H'
section
variable {P : Program} {w : World} {K : PySem.W.Frag} {mg : Str → Option Value} {base : Heap}
theorem ok__law_word (T : TX K mg) : FnOk P w K mg base CX0 1 T.a__law_word T.d__law_word ["draws"] (sp_word K) := by
  refine T.F__law_word.ok sc__law_word (fun vs H Q E h => ?_) (fun cdv A outer s H vs Q E hr h => ?_)
  · obtain ⟨a, ds, rfl, _⟩ := h
    rfl
  · obtain ⟨a, ds, rfl, hS, hl, hD, q⟩ := h
    refine ⟨_, (pss_cons (ps_set (i := 1) sc__law_word.nd rfl (Or.inr rfl) pe_str)
      (pss_cons (ps_set (i := 2) sc__law_word.nd rfl (Or.inl rfl) (pe_op op_mod (pe_callTy call_int1 (by rfl) T.n_int (by decide +kernel) (pa_cons (pe_ix ix_list (pv 0) pe_int (fun _ _ => rfl)) pa_nil)) pe_int))
      (C8.pss_cut (ps_if (pt_cmpR op_eq (pe_op op_mod (pe_ix ix_list (pv 0) pe_int (fun _ _ => rfl)) pe_int) pe_int (nomark _)) (pss_one (ps_set (i := 2) sc__law_word.nd rfl (Or.inl rfl) (pe_op op_add pe_int (pe_op op_mod (pe_callTy call_int1 (by rfl) T.n_int (by decide +kernel) (pa_cons (pe_ix ix_list (pv 0) pe_int (fun _ _ => rfl)) pa_nil)) pe_int)))) pss_nil)
      (pss_cons (ps_set (i := 3) sc__law_word.nd rfl (Or.inl rfl) (pe_join pe_str (pe_lc (own := [("k", 5)]) (g := gName 5) (tt := tYes) (by rfl) sc__law_word.nd (pi_range1 (by rfl) T.n_range (pa_cons (pv 2) pa_nil)) (blkOk_by (own := [("k", 5)]) (N := ["draws", "chars", "size", "word", "at", "k"]) (sc := defScope s__law_word) (by decide +kernel)) (fun _ _ _ _ _ => pg_name (i := 5) sc__law_word.nd rfl (Or.inl rfl)) (fun _ _ _ _ _ => pts_nil) (fun _ _ _ _ _ => (pe_ix ix_str (pv 1) (pe_op op_mod (pe_callTy call_int1 (by rfl) T.n_int (by decide +kernel) (pa_cons (pe_op op_add (pe_ix (ixK_list (K := K) rfl) (pv 0) (pe_op op_add pe_int (pe_op op_mod (pv 5) pe_int)) (fun _ _ => rfl)) (pv 5)) pa_nil)) pe_int) (fun _ _ => rfl))))))
      (pss_cons (ps_set (i := 4) sc__law_word.nd rfl (Or.inl rfl) (pe_op op_mod (pe_callTy call_int1 (by rfl) T.n_int (by decide +kernel) (pa_cons (pe_ix ix_list (pv 0) pe_int (fun _ _ => rfl)) pa_nil)) (pe_op op_add (pv 2) pe_int)))
      (C8.pss_cut (ps_if (pt_cmpR op_eq (pe_op op_mod (pe_ix ix_list (pv 0) pe_int (fun _ _ => rfl)) pe_int) pe_int (nomark _)) (pss_one (ps_set (i := 3) sc__law_word.nd rfl (Or.inl rfl) (pe_op op_add_str (pe_op op_add_str (pe_slice sl_str (pv 3) po_none (po_some (pv 4))) (pe_ix ix_str (pv 1) (pe_op op_mod (pe_callTy call_int1 (by rfl) T.n_int (by decide +kernel) (pa_cons (pe_ix ix_list (pv 0) pe_int (fun _ _ => rfl)) pa_nil)) pe_int) (fun _ _ => rfl))) (pe_slice sl_str (pv 3) (po_some (pe_op op_add (pv 4) pe_int)) po_none)))) pss_nil)
      (C8.pss_cut (ps_if (pt_cmpR op_eq (pe_op op_mod (pe_ix ix_list (pv 0) pe_int (fun _ _ => rfl)) pe_int) pe_int (nomark _)) (pss_one (ps_set (i := 3) sc__law_word.nd rfl (Or.inl rfl) (pe_op op_add_str (pe_op op_add_str (pe_slice sl_str (pv 3) po_none (po_some pe_int)) pe_str) (pe_ix ix_str (pv 1) (pe_op op_mod (pe_callTy call_int1 (by rfl) T.n_int (by decide +kernel) (pa_cons (pe_ix ix_list (pv 0) pe_int (fun _ _ => rfl)) pa_nil)) pe_int) (fun _ _ => rfl))))) pss_nil)
      (pss_one (ps_ret (pv 3)))))))))), ?_⟩
    have ml : (ds.map V.int).length = 17 := by rw [List.length_map, hl]
    obtain ⟨d0, e0, _⟩ := draw_ix (ds := ds) (i := 0) (by decide) (by omega)
    obtain ⟨d1, e1, _⟩ := draw_ix (ds := ds) (i := 1) (by decide) (by omega)
    obtain ⟨d2, e2, _⟩ := draw_ix (ds := ds) (i := 2) (by decide) (by omega)
    obtain ⟨d12, e12, _⟩ := draw_ix (ds := ds) (i := 12) (by decide) (by omega)
    obtain ⟨d13, e13, _⟩ := draw_ix (ds := ds) (i := 13) (by decide) (by omega)
    obtain ⟨d14, e14, _⟩ := draw_ix (ds := ds) (i := 14) (by decide) (by omega)
    obtain ⟨d15, e15, _⟩ := draw_ix (ds := ds) (i := 15) (by decide) (by omega)
    obtain ⟨d16, e16, _⟩ := draw_ix (ds := ds) (i := 16) (by decide) (by omega)
    -- size
    refine ⟨_, rfl, a, _, _, _, rfl, rfl, hS, e0, .inl ⟨_, rfl, _, _, rfl, rfl, (by show (0 : Int) < _; decide), ?_⟩⟩
    refine ⟨fun σ' H' => H = H' ∧ ∃ s : Int, 0 ≤ s ∧ s ≤ 42 ∧ σ' = [some (.ref a), some (.str charsS), some (.int s), none, none, none], ?_, ?_⟩
    · refine ⟨_, rfl, a, _, _, _, rfl, rfl, hS, e1, _, _, rfl, rfl, (by show (0 : Int) < _; decide), rfl, _, rfl, ifd (fun _ => ?_) (fun _ => ?_)⟩
      · refine ⟨_, rfl, a, _, _, _, rfl, rfl, hS, e2, .inl ⟨_, rfl, _, _, rfl, rfl, (by show (0 : Int) < _; decide), _, _, rfl, rfl, rfl, 39 + d2 % 4, ?_, ?_, rfl⟩⟩
        · have := Int.emod_nonneg d2 (show (4 : Int) ≠ 0 by decide); omega
        · have := Int.emod_lt_of_pos d2 (show (0 : Int) < 4 by decide); omega
      · refine ⟨rfl, d0 % 15, Int.emod_nonneg _ (by decide), ?_, rfl⟩
        have := Int.emod_lt_of_pos d0 (show (0 : Int) < 15 by decide); omega
    rintro σ' _ ⟨rfl, s, hs0, hs1, rfl⟩
    -- word
    refine ⟨⟨_, rfl⟩, _, rfl, s, rfl, by omega, by omega, fun D hD => ?_⟩
    refine lc_it (walk_range (lo := 0) (n := s.toNat)) (fun i H' => Same H H' ∧ ∃ cs : List Nat, cs.length = i ∧ (∀ c ∈ cs, c < 128) ∧ H' D = some (.lst ((cs.map fun c => (⟨#[c]⟩ : Str)).map V.str))) ⟨same_upd hD, [], rfl, (fun _ h => by cases h), upd_same⟩ (fun _ _ _ _ => trivial) ?_ ?_
    · rintro i x G _ hi ⟨hs, cs, hc1, hc2, hl⟩ ⟨rfl, rfl⟩
      obtain ⟨d, ed, _⟩ := draw_ix (ds := ds) (i := 3 + (0 + (i : Int)) % 9) (by have := Int.emod_nonneg (0 + (i : Int)) (show (9 : Int) ≠ 0 by decide); omega) (by have := Int.emod_lt_of_pos (0 + (i : Int)) (show (0 : Int) < 9 by decide); omega)
      obtain ⟨c, hc, hcl⟩ := chars_ix (i := (d + (0 + (i : Int))) % 6) (Int.emod_nonneg _ (by decide)) (by have := Int.emod_lt_of_pos (d + (0 + (i : Int))) (show (0 : Int) < 6 by decide); omega)
      refine ⟨rfl, _, rfl, _, rfl, _, rfl, _, _, rfl, rfl, (by show (0 : Int) < _; decide), _, _, rfl, rfl, a, _, _, _, rfl, rfl, hs.seq hS, ed, _, rfl, _, _, rfl, rfl, .inl ⟨_, rfl, _, _, rfl, rfl, (by show (0 : Int) < _; decide), charsS, _, c, rfl, rfl, (by show charsS.length ≤ sizeLine; decide +kernel), hc, ?_⟩⟩
      refine ⟨_, hl, szl (by rw [List.length_map, List.length_map]; omega), same_put hs hD, cs ++ [c], by rw [List.length_append, hc1]; rfl, fun d hd => ?_, ?_⟩
      · rcases List.mem_append.mp hd with h | h
        · exact hc2 d h
        · have : d = c := by simpa using h
          omega
      · rw [upd_same, List.map_append, List.map_append]
        rfl
    · rintro G ⟨hs, cs, hc1, hc2, hl⟩
      have hcl : cs.length ≤ 42 := by omega
      refine ⟨_, D, _, rfl, rfl, .inl (sql hl), ?_, ?_⟩
      · rw [signs_len, List.length_map]
        show cs.length + cs.length * 0 ≤ _
        omega
      rw [join_signs]
      have hw1 : (⟨cs.toArray⟩ : Str).length ≤ 42 := by show cs.toArray.size ≤ 42; simpa using hcl
      have hw2 : Asc ⟨cs.toArray⟩ := fun d hd => hc2 d (by simpa using hd)
      generalize (⟨cs.toArray⟩ : Str) = wd at hw1 hw2
      have hS2 := hs.seq hS
      -- at
      refine ⟨_, rfl, a, _, _, _, rfl, rfl, hS2, e12, .inl ⟨_, rfl, _, rfl, _, _, rfl, rfl, _, _, rfl, rfl, (by show (0 : Int) < _; omega), ?_⟩⟩
      dsimp only
      have ha0 := Int.emod_nonneg d12 (show s + 1 ≠ 0 by omega)
      generalize d12 % (s + 1) = at_ at ha0
      refine ⟨fun σ' H' => G = H' ∧ ∃ z : Str, z.length ≤ 85 ∧ Asc z ∧ σ' = [some (.ref a), some (.str charsS), some (.int s), some (.str z), some (.int at_), none], ?_, ?_⟩
      · refine ⟨_, rfl, a, _, _, _, rfl, rfl, hS2, e13, _, _, rfl, rfl, (by show (0 : Int) < _; decide), rfl, _, rfl, ifd (fun _ => ?_) (fun _ => ?_)⟩
        · obtain ⟨c, hc, hcl⟩ := chars_ix (i := d14 % 14) (Int.emod_nonneg _ (by decide)) (Int.emod_lt_of_pos d14 (show (0 : Int) < 14 by decide))
          have l1 := cutS_length wd none (some at_)
          have l2 := cutS_length wd (some (at_ + 1)) none
          refine ⟨_, rfl, _, rfl, _, rfl, wd, rfl, sz (by omega), _, rfl, _, rfl, a, _, _, _, rfl, rfl, hS2, e14, .inl ⟨_, rfl, _, _, rfl, rfl, (by show (0 : Int) < _; decide), charsS, _, c, rfl, rfl, (by show charsS.length ≤ sizeLine; decide +kernel), hc, ?_⟩⟩
          refine ⟨_, _, rfl, rfl, sz (by rw [sign_len]; omega), _, rfl, _, rfl, _, _, rfl, rfl, _, rfl, wd, rfl, sz (by omega), _, _, rfl, rfl, sz (by rw [str_app_len, sign_len]; omega), ?_⟩
          refine ⟨rfl, _, ?_, asc_app (asc_app (asc_cut _ _ hw2) (asc_sign hcl)) (asc_cut _ _ hw2), rfl⟩
          rw [str_app_len, str_app_len, sign_len]
          omega
        · exact ⟨rfl, wd, by omega, hw2, rfl⟩
      rintro σ' _ ⟨rfl, z, hz1, hz2, rfl⟩
      refine ⟨fun σ' H' => G = H' ∧ ∃ z : Str, z.length ≤ 200 ∧ Asc z ∧ σ' = [some (.ref a), some (.str charsS), some (.int s), some (.str z), some (.int at_), none], ?_, ?_⟩
      · refine ⟨_, rfl, a, _, _, _, rfl, rfl, hS2, e15, _, _, rfl, rfl, (by show (0 : Int) < _; decide), rfl, _, rfl, ifd (fun _ => ?_) (fun _ => ?_)⟩
        · obtain ⟨c, hc, hcl⟩ := chars_ix (i := d16 % 8) (Int.emod_nonneg _ (by decide)) (by have := Int.emod_lt_of_pos d16 (show (0 : Int) < 8 by decide); omega)
          have l1 := cutS_length z none (some 12)
          have hsl : (("/" : Str)).length = 1 := by decide +kernel
          refine ⟨_, rfl, _, rfl, z, rfl, sz (by omega), _, _, rfl, rfl, sz (by rw [hsl]; omega), _, rfl, _, rfl, a, _, _, _, rfl, rfl, hS2, e16, .inl ⟨_, rfl, _, _, rfl, rfl, (by show (0 : Int) < _; decide), charsS, _, c, rfl, rfl, (by show charsS.length ≤ sizeLine; decide +kernel), hc, ?_⟩⟩
          refine ⟨_, _, rfl, rfl, sz (by rw [str_app_len, sign_len, hsl]; omega), ?_⟩
          refine ⟨rfl, _, ?_, asc_app (asc_app (asc_cut _ _ hz2) ?_) (asc_sign hcl), rfl⟩
          · rw [str_app_len, str_app_len, sign_len, hsl]
            omega
          · have : ∀ c ∈ ("/" : Str).cps.toList, c < 128 := by decide +kernel
            exact this
        · exact ⟨rfl, z, by omega, hz2, rfl⟩
      rintro σ' _ ⟨rfl, z, hz1, hz2, rfl⟩
      exact ⟨_, rfl, q z _ hs hz1 hz2⟩
end
def sp_right (K : PySem.W.Frag) : Sp := fun vs H Q _ => ∃ z, vs = [.str z] ∧ z.length ≤ 1000 ∧ Asc z ∧ ∀ H', Same H H' → Q (.bl true) H'
def sp_law (K : PySem.W.Frag) : Sp := fun vs H Q _ => ∃ (a : Addr) (ns : List Int), vs = [.ref a] ∧ SqL K H a (ns.map V.int) ∧ ns.length ≤ 63 ∧ ∀ H', Q (.bl true) H'
theorem zoneOk_eq (z : Str) : zoneOk z = (nameOk z || decide (z = "")) := by unfold zoneOk; rw [Bool.or_comm]
theorem dig9 {z : Str} (h : slotOk z = true) : 0 ≤ ((digitOf z : Nat) : Int) ∧ ((digitOf z : Nat) : Int) ≤ 9 := by
  obtain ⟨c, hc, hd⟩ := slot_digit h
  unfold digitOf
  rw [hc]
  have : ∀ c ∈ digitL, 0 ≤ (((some c).getD 0 - 48 : Nat) : Int) ∧ (((some c).getD 0 - 48 : Nat) : Int) ≤ 9 := by decide +kernel
  exact this c hd
section
variable {P : Program} {w : World} {K : PySem.W.Frag} {mg : Str → Option Value} {base : Heap}
theorem ok__law_right (T : TX K mg) : FnOk P w K mg base CX0 4 T.a__law_right T.d__law_right ["word"] (sp_right K) := by
  refine T.F__law_right.ok sc__law_right (fun vs H Q E h => ?_) (fun cdv A outer s H vs Q E hr h => ?_)
  · obtain ⟨z, rfl, _⟩ := h
    rfl
  · obtain ⟨z, rfl, hz, hA, q⟩ := h
    refine ⟨_, (pss_cons (ps_set (i := 1) sc__law_right.nd rfl (Or.inl rfl) (pe_call (ok__law_is_name T) (hr.mono (by decide)) (by rfl) T.g__law_is_name T.F__law_is_name.kp T.b__law_is_name .nil pass0 (pa_cons (pv 0) pa_nil)))
      (C8.pss_cut (ps_if (PW.pt (pw_or (pt_not (pt_val (pe_call (ok__law_says T) (hr.mono (by decide)) (by rfl) T.g__law_says T.F__law_says.kp T.b__law_says .nil pass0 (pa_cons (pe_call (ok_is_plain_name T) (hr.mono (by decide)) (by rfl) T.g_is_plain_name T.F_is_plain_name.kp T.b_is_plain_name .nil pass0 (pa_cons (pv 0) pa_nil)) (pa_cons (pv 1) pa_nil))))) (pw_or1 (pt_not (pt_val (pe_call (ok__law_says T) (hr.mono (by decide)) (by rfl) T.g__law_says T.F__law_says.kp T.b__law_says .nil pass0 (pa_cons (pe_call (ok_is_zone T) (hr.mono (by decide)) (by rfl) T.g_is_zone T.F_is_zone.kp T.b_is_zone .nil pass0 (pa_cons (pv 0) pa_nil)) (pa_cons (pe_or (pv 1) (pe_one (pe_cmpR op_eq (pv 0) pe_str (nomark _)))) pa_nil)))))))) (pss_one (ps_ret pe_bl)) pss_nil)
      (pss_cons (ps_if (PW.pt (pw_or (pt_not (pt_val (pe_call (ok__law_says T) (hr.mono (by decide)) (by rfl) T.g__law_says T.F__law_says.kp T.b__law_says .nil pass0 (pa_cons (pe_call (ok_is_text T) (hr.mono (by decide)) (by rfl) T.g_is_text T.F_is_text.kp T.b_is_text .nil pass0 (pa_cons (pv 0) pa_nil)) (pa_cons (pe_call (ok__law_is_text T) (hr.mono (by decide)) (by rfl) T.g__law_is_text T.F__law_is_text.kp T.b__law_is_text .nil pass0 (pa_cons (pv 0) pa_nil)) pa_nil))))) (pw_or1 (pt_not (pt_val (pe_call (ok__law_says T) (hr.mono (by decide)) (by rfl) T.g__law_says T.F__law_says.kp T.b__law_says .nil pass0 (pa_cons (pe_call (ok_is_slot_name T) (hr.mono (by decide)) (by rfl) T.g_is_slot_name T.F_is_slot_name.kp T.b_is_slot_name .nil pass0 (pa_cons (pv 0) pa_nil)) (pa_cons (pe_call (ok__law_is_slot T) (hr.mono (by decide)) (by rfl) T.g__law_is_slot T.F__law_is_slot.kp T.b__law_is_slot .nil pass0 (pa_cons (pv 0) pa_nil)) pa_nil)))))))) (pss_one (ps_ret pe_bl)) pss_nil)
      (pss_cons (ps_set (i := 2) sc__law_right.nd rfl (Or.inl rfl) (pe_call (ok_split_slot T) (hr.mono (by decide)) (by rfl) T.g_split_slot T.F_split_slot.kp T.b_split_slot .nil pass0 (pa_cons (pv 0) pa_nil)))
      (pss_cons (ps_if (pt_not (pt_val (pe_call (ok__law_is_slot T) (hr.mono (by decide)) (by rfl) T.g__law_is_slot T.F__law_is_slot.kp T.b__law_is_slot .nil pass0 (pa_cons (pv 0) pa_nil)))) (pss_one (ps_ret (pe_cmpR op_isN (pv 2) pe_non (nomark _)))) pss_nil)
      (pss_cons (ps_if (PW.pt (pw_or (pt_not (pt_val (pe_callB call_isi (by rfl) T.n_isinstance (by decide +kernel) (pa_cons (pv 2) (pa_cons (pe_bltn (v := .ty "tuple") (u := .type "tuple") (by rfl) T.n_tuple (by decide +kernel) rfl) pa_nil))))) (pw_or (pt_cmpR op_ne (pe_callB call_len_seq (by rfl) T.n_len PySem.boot_len (pa_cons (pv 2) pa_nil)) pe_int (nomark _)) (pw_or1 (pt_not (pt_val (pe_call (ok__law_is_integer T) (hr.mono (by decide)) (by rfl) T.g__law_is_integer T.F__law_is_integer.kp T.b__law_is_integer .nil pass0 (pa_cons (pe_ix ix_tup (pv 2) pe_int (fun _ _ => rfl)) pa_nil)))))))) (pss_one (ps_ret pe_bl)) pss_nil)
      (pss_one (ps_ret (pe_and (pe_cmpR (op_eqD hr.units) (pv 2) (pe_tup (pa_cons (pe_slice sl_str (pv 0) po_none (po_some (pe_un un_neg pe_int))) (pa_cons (pe_callTy call_int_str (by rfl) T.n_int (by decide +kernel) (pa_cons (pe_ix ix_str (pv 0) (pe_un un_neg pe_int) (fun _ _ => rfl)) pa_nil)) pa_nil))) (nomark _)) (pe_one (pe_cmpR op_eq (pe_call (ok_slot_name T) (hr.mono (by decide)) (by rfl) T.g_slot_name T.F_slot_name.kp T.b_slot_name .nil pass0 (pa_cons (pe_ix ix_tup (pv 2) pe_int (fun _ _ => rfl)) (pa_cons (pe_ix ix_tup (pv 2) pe_int (fun _ _ => rfl)) pa_nil))) (pv 0) (nomark _)))))))))))), ?_⟩
    have tx : IsText (.str z) z := ⟨rfl, by omega⟩
    refine ⟨_, rfl, z, rfl, by omega, ?_⟩
    refine ⟨fun σ' H' => Same H H' ∧ σ' = [some (.str z), some (.bl (nameOk z)), none], ?_, ?_⟩
    · refine ⟨_, rfl, _, rfl, .inl ⟨z, tx, fun H1 s1 => ⟨_, rfl, nameOk z, rfl, _, rfl, ifbf rfl ?_⟩⟩⟩
      refine ⟨_, rfl, _, rfl, .inl ⟨z, tx, fun H2 s2 => ⟨_, rfl, nameOk z, rfl, ?_⟩⟩⟩
      refine ifb2 (fun hn => ?_) (fun hn => ?_)
      · exact ⟨zoneOk z, by rw [zoneOk_eq, hn]; rfl, _, rfl, s1.trans s2, rfl⟩
      · refine ⟨_, rfl, rfl, zoneOk z, ?_, _, rfl, s1.trans s2, rfl⟩
        rw [zoneOk_eq, hn, Bool.false_or]
        have e : decide (V.str z = V.str (Str.ofString "")) = decide (z = Str.ofString "") := by
          rw [Bool.eq_iff_iff]
          simp
        show [V.bl _, V.bl (decide (V.str z = V.str (Str.ofString "")))] = _
        rw [e]
    rintro σ' G ⟨s0, rfl⟩
    refine ⟨_, rfl, _, rfl, .inl ⟨z, tx, fun H1 s1 => ⟨_, rfl, z, rfl, by omega, textOk z, rfl, _, rfl, ifbf rfl ?_⟩⟩⟩
    refine ⟨_, rfl, _, rfl, .inl ⟨z, tx, fun H2 s2 => ⟨_, rfl, z, rfl, by omega, slotOk z, rfl, _, rfl, ifbf rfl ?_⟩⟩⟩
    have s3 := (s0.trans s1).trans s2
    refine ⟨_, rfl, z, rfl, by omega, fun hs H3 t3 => ?_, fun hs p H3 hp t3 hp3 => ?_⟩
    · refine ⟨_, rfl, z, rfl, by omega, _, rfl, ?_⟩
      refine ifbt (by rw [hs]; rfl) ?_
      exact ⟨_, rfl, rfl, q _ (s3.trans t3)⟩
    · refine ⟨_, rfl, z, rfl, by omega, _, rfl, ?_⟩
      refine ifbf (by rw [hs]; rfl) ?_
      have d9 := dig9 hs
      refine ⟨_, rfl, _, .ty "tuple", .type "tuple", .type "tuple", true, rfl, .ty _, tyx_t (sqt hp3), kit_ty (by decide +kernel), _, rfl, ifbf rfl ?_⟩
      refine ⟨_, rfl, p, _, rfl, .inr (sqt hp3), rfl, _, rfl, ifnt rfl ?_⟩
      refine ⟨_, rfl, p, _, _, _, rfl, rfl, sqt hp3, rfl, _, rfl, _, rfl, ifbf rfl ?_⟩
      obtain ⟨c, hc, hd⟩ := slot_digit hs
      refine ⟨_, rfl, _, rfl, _, rfl, _, rfl, z, rfl, sz (by omega), _, rfl, _, rfl, z, _, c, rfl, rfl, sz (by omega), hc, _, _, rfl, dig_int hd, (by show 1 ≤ 640; decide), (by show 2 ≤ sizeLine; decide), fun p2 hp2 => ?_⟩
      have t4 := same_upd (o := .tup [.str (cutS z none (some (-2))), .int ((c - 48 : Nat) : Int)]) hp2
      have fl : SeqAt.shaped (.tuple [.str (headS z), .int ((digitOf z : Nat) : Int)]) = true := by
        refine (flat_tup (n := 0) fun d hd => ?_).sh (by decide)
        simp only [List.mem_cons, List.not_mem_nil, or_false] at hd
        rcases hd with rfl | rfl
        · exact flat_str _ _ (asc_ok (asc_cut _ _ hA))
        · exact flat_int _ _
      have ed : digitOf z = c - 48 := by unfold digitOf; rw [hc]; rfl
      refine ⟨_, _, .tup (sqt (t4 _ _ hp3)) (.cons (.str _) (.cons (.int _) .nil)), .tup (sqt upd_same) (.cons (.str _) (.cons (.int _) .nil)), fl, by rw [← ed]; exact fl, _, rfl, ?_⟩
      refine ifbt (by rw [← ed]; exact eqv_self fl) ?_
      have hp4 := t4 _ _ hp3
      refine ⟨_, rfl, p, _, _, _, rfl, rfl, sqt hp4, rfl, _, rfl, p, _, _, _, rfl, rfl, sqt hp4, rfl, _, _, rfl, Nat.le_trans (head_len z) hz, d9.1, d9.2, _, rfl, rfl, ?_⟩
      rw [slot_whole hs, decide_eq_true rfl]
      exact q _ ((s3.trans t3).trans t4)
theorem ok_law (T : TX K mg) : FnOk P w K mg base CX0 5 T.a_law T.d_law ["script"] (sp_law K) := by
  refine T.F_law.ok sc_law (fun vs H Q E h => ?_) (fun cdv A outer s H vs Q E hr h => ?_)
  · obtain ⟨a, ns, rfl, _⟩ := h
    rfl
  · obtain ⟨a, ns, rfl, hS, hlen, q⟩ := h
    refine ⟨_, (pss_cons (ps_set (i := 1) sc_law.nd rfl (Or.inl rfl) (pe_call (ok__law_draws T) (hr.mono (by decide)) (by rfl) T.g__law_draws T.F__law_draws.kp T.b__law_draws .nil pass0 (pa_cons (pv 0) (pa_cons pe_int pa_nil))))
      (pss_cons (ps_for PassesOwn.never rfl (pi_range1 (by rfl) T.n_range (pa_cons pe_int pa_nil)) (pg_name (i := 2) sc_law.nd rfl (Or.inl rfl))
        (pss_one (ps_if (pt_not (pt_val (pe_call (ok__law_right T) (hr.mono (by decide)) (by rfl) T.g__law_right T.F__law_right.kp T.b__law_right .nil pass0 (pa_cons (pe_call (ok__law_word T) (hr.mono (by decide)) (by rfl) T.g__law_word T.F__law_word.kp T.b__law_word .nil pass0 (pa_cons (pe_slice sl_list (pv 1) (po_some (pe_op op_mul pe_int (pv 2))) (po_some (pe_op op_add (pe_op op_mul pe_int (pv 2)) pe_int))) pa_nil)) pa_nil)))) (pss_one (ps_ret pe_bl)) pss_nil)))
      (pss_cons (ps_for PassesOwn.never rfl (pi_list (pe_lst (pa_cons pe_non (pa_cons pe_bl (pa_cons pe_bl (pa_cons pe_int (pa_cons (pe_tup pa_nil) (pa_cons (pe_tup (pa_cons pe_str pa_nil)) (pa_cons (pe_tup (pa_cons pe_str (pa_cons pe_str (pa_cons pe_str pa_nil)))) pa_nil))))))))) (pg_name (i := 3) sc_law.nd rfl (Or.inl rfl))
        (pss_cons (ps_if (PW.pt (pw_or (pt_cmpR op_isnot_bl (pe_call (ok_is_plain_name T) (hr.mono (by decide)) (by rfl) T.g_is_plain_name T.F_is_plain_name.kp T.b_is_plain_name .nil pass0 (pa_cons (pv 3) pa_nil)) pe_bl (nomark _)) (pw_or (pt_cmpR op_isnot_bl (pe_call (ok_is_slot_name T) (hr.mono (by decide)) (by rfl) T.g_is_slot_name T.F_is_slot_name.kp T.b_is_slot_name .nil pass0 (pa_cons (pv 3) pa_nil)) pe_bl (nomark _)) (pw_or1 (pt_cmpR op_isnot_bl (pe_call (ok_is_text T) (hr.mono (by decide)) (by rfl) T.g_is_text T.F_is_text.kp T.b_is_text .nil pass0 (pa_cons (pv 3) pa_nil)) pe_bl (nomark _)))))) (pss_one (ps_ret pe_bl)) pss_nil)
        (pss_one (ps_if (pt_cmpR op_isnot_bl (pe_call (ok_is_zone T) (hr.mono (by decide)) (by rfl) T.g_is_zone T.F_is_zone.kp T.b_is_zone .nil pass0 (pa_cons (pv 3) pa_nil)) pe_bl (nomark _)) (pss_one (ps_ret pe_bl)) pss_nil))))
      (pss_cons (ps_for PassesOwn.never rfl (pi_list (pe_lst (pa_cons pe_non (pa_cons pe_bl (pa_cons pe_bl (pa_cons pe_str (pa_cons (pe_tup pa_nil) (pa_cons (pe_tup (pa_cons pe_int pa_nil)) pa_nil)))))))) (pg_name (i := 3) sc_law.nd rfl (Or.inl rfl))
        (pss_one (ps_if (pt_cmpR op_isnot_bl (pe_call (ok_is_count T) (hr.mono (by decide)) (by rfl) T.g_is_count T.F_is_count.kp T.b_is_count .nil pass0 (pa_cons (pv 3) pa_nil)) pe_bl (nomark _)) (pss_one (ps_ret pe_bl)) pss_nil)))
      (pss_cons (ps_for PassesOwn.never rfl (pi_range1 (by rfl) T.n_range (pa_cons pe_int pa_nil)) (pg_name (i := 2) sc_law.nd rfl (Or.inl rfl))
        (pss_cons (ps_set (i := 4) sc_law.nd rfl (Or.inl rfl) (pe_op op_sub (pe_op op_add (pe_op op_mul (pe_ix ix_list (pv 1) (pv 2) (fun _ _ => rfl)) pe_int) (pe_ix ix_list (pv 1) (pe_op op_add (pv 2) pe_int) (fun _ _ => rfl))) pe_int))
        (pss_one (ps_if (PW.pt (pw_or (pt_not (pt_val (pe_call (ok__law_says T) (hr.mono (by decide)) (by rfl) T.g__law_says T.F__law_says.kp T.b__law_says .nil pass0 (pa_cons (pe_call (ok_is_count T) (hr.mono (by decide)) (by rfl) T.g_is_count T.F_is_count.kp T.b_is_count .nil pass0 (pa_cons (pv 4) pa_nil)) (pa_cons (pe_cmpR op_ge (pv 4) pe_int (nomark _)) pa_nil))))) (pw_or1 (pt_not (pt_val (pe_call (ok__law_says T) (hr.mono (by decide)) (by rfl) T.g__law_says T.F__law_says.kp T.b__law_says .nil pass0 (pa_cons (pe_call (ok_is_count T) (hr.mono (by decide)) (by rfl) T.g_is_count T.F_is_count.kp T.b_is_count .nil pass0 (pa_cons (pe_op op_sub (pe_op op_pow pe_int pe_int) (pv 4)) pa_nil)) (pa_cons (pe_cmpR op_ge (pv 4) pe_int (nomark _)) pa_nil)))))))) (pss_one (ps_ret pe_bl)) pss_nil))))
      (pss_one (ps_ret (pe_and (pe_cmpR op_is_bl (pe_call (ok_is_count T) (hr.mono (by decide)) (by rfl) T.g_is_count T.F_is_count.kp T.b_is_count .nil pass0 (pa_cons pe_int pa_nil)) pe_bl (nomark _)) (pe_and (pe_cmpR op_is_bl (pe_call (ok_is_count T) (hr.mono (by decide)) (by rfl) T.g_is_count T.F_is_count.kp T.b_is_count .nil pass0 (pa_cons (pe_op op_pow pe_int pe_int) pa_nil)) pe_bl (nomark _)) (pe_one (pe_cmpR op_is_bl (pe_call (ok_is_count T) (hr.mono (by decide)) (by rfl) T.g_is_count T.F_is_count.kp T.b_is_count .nil pass0 (pa_cons (pe_op op_add (pe_op op_pow pe_int pe_int) pe_int) pa_nil)) pe_bl (nomark _)))))))))))), ?_⟩
    refine ⟨_, rfl, a, ns, 340, rfl, hS, hlen, by decide, fun p H1 ds hp s1 e1 hD hl => ?_⟩
    -- words
    refine ⟨20, rfl, by decide, by decide, for_range (lo := 0) (n := 20) (fun _ σ G => G p = some (.lst (ds.map V.int)) ∧ ∃ x2 x3 x4, σ = [some (.ref a), some (.ref p), x2, x3, x4]) ⟨e1, none, none, none, rfl⟩ ?_ ?_⟩
    · rintro i σ G hi ⟨e, x2, x3, x4, rfl⟩
      refine ⟨_, rfl, _, rfl, _, _, rfl, rfl, .inl ⟨by decide, by decide⟩, _, rfl, _, rfl, _, _, rfl, rfl, .inl ⟨by decide, by decide⟩, _, _, rfl, rfl, _, rfl, p, _, rfl, sql e, fun p2 hp2 => ?_⟩
      have hc : cutV (ds.map V.int) (some (17 * (0 + (i : Int)))) (some (17 * (0 + (i : Int)) + 17)) = ((ds.drop (17 * i)).take (17 * i + 17 - 17 * i)).map V.int := cut_ints ds (by omega) (by omega)
      rw [hc]
      have s2 := same_upd (o := .lst (((ds.drop (17 * i)).take (17 * i + 17 - 17 * i)).map V.int)) hp2
      refine ⟨p2, _, rfl, sql upd_same, by rw [List.length_take, List.length_drop]; omega, fun d hd => hD d (List.mem_of_mem_drop (List.mem_of_mem_take hd)), fun z G2 s3 hz hA => ?_⟩
      refine ⟨z, rfl, by omega, hA, fun G3 s4 => ⟨_, rfl, ifbf rfl ?_⟩⟩
      exact ⟨s4 _ _ (s3 _ _ (s2 _ _ e)), _, _, _, rfl⟩
    rintro σ G ⟨e, x2, x3, x4, rfl⟩
    clear hS hp s1 e1
    -- things that are no texts
    refine ⟨(by show 0 ≤ sizeLine; decide), fun t1 h1 => ⟨(by show 1 ≤ sizeLine; decide), fun t2 h2 => ⟨(by show 3 ≤ sizeLine; decide), fun t3 h3 => ⟨(by show 7 ≤ sizeLine; decide), fun l hl1 => ?_⟩⟩⟩⟩
    have o1 : ∀ G', Same (upd G t1 (.tup [])) G' → OtherZ K G' (.ref t1) := fun G' s => .inr (.inr (.inr ⟨t1, [], [], rfl, sqt (s _ _ upd_same), .tup (sqt (s _ _ upd_same)) .nil, by decide⟩))
    have s1 := same_upd (o := .tup []) h1
    generalize upd G t1 (.tup []) = G1 at h2 h3 hl1 o1 s1
    have o2 : ∀ G', Same (upd G1 t2 (.tup [.str "a"])) G' → OtherZ K G' (.ref t2) := fun G' s => .inr (.inr (.inr ⟨t2, _, [.str "a"], rfl, sqt (s _ _ upd_same), .tup (sqt (s _ _ upd_same)) (.cons (.str _) .nil), by decide +kernel⟩))
    have s2 := same_upd (o := .tup [.str "a"]) h2
    generalize upd G1 t2 (.tup [.str "a"]) = G2 at h3 hl1 o2 s2
    have o3 : ∀ G', Same (upd G2 t3 (.tup [.str "a", .str "/", .str "1"])) G' → OtherZ K G' (.ref t3) := fun G' s => .inr (.inr (.inr ⟨t3, _, [.str "a", .str "/", .str "1"], rfl, sqt (s _ _ upd_same), .tup (sqt (s _ _ upd_same)) (.cons (.str _) (.cons (.str _) (.cons (.str _) .nil))), by decide +kernel⟩))
    have s3 := same_upd (o := .tup [.str "a", .str "/", .str "1"]) h3
    generalize upd G2 t3 (.tup [.str "a", .str "/", .str "1"]) = G3 at hl1 o3 s3
    have s4 := same_upd (o := .lst [.non, .bl true, .bl false, .int 3, .ref t1, .ref t2, .ref t3]) hl1
    have e4 : upd G3 l (.lst [.non, .bl true, .bl false, .int 3, .ref t1, .ref t2, .ref t3]) l = some (.lst [.non, .bl true, .bl false, .int 3, .ref t1, .ref t2, .ref t3]) := upd_same
    generalize upd G3 l (.lst [.non, .bl true, .bl false, .int 3, .ref t1, .ref t2, .ref t3]) = G4 at s4 e4
    have hall : ∀ v ∈ ([.non, .bl true, .bl false, .int 3, .ref t1, .ref t2, .ref t3] : List V), ∀ G', Same G4 G' → OtherZ K G' v := by
      intro v hv G' s
      simp only [List.mem_cons, List.not_mem_nil, or_false] at hv
      rcases hv with rfl | rfl | rfl | rfl | rfl | rfl | rfl
      · exact .inl rfl
      · exact .inr (.inl ⟨_, rfl⟩)
      · exact .inr (.inl ⟨_, rfl⟩)
      · exact .inr (.inr (.inl ⟨_, rfl⟩))
      · exact o1 G' (((s2.trans s3).trans s4).trans s)
      · exact o2 G' ((s3.trans s4).trans s)
      · exact o3 G' (s4.trans s)
    have ep : G4 p = some (.lst (ds.map V.int)) := s4 _ _ (s3 _ _ (s2 _ _ (s1 _ _ e)))
    clear e s1 s2 s3 s4 h1 h2 h3 hl1 o1 o2 o3
    refine ⟨l, rfl, ⟨_, sql e4⟩, for_list (K := K) (a := l) (xs := [.non, .bl true, .bl false, .int 3, .ref t1, .ref t2, .ref t3]) (fun _ σ G' => Same G4 G' ∧ ∃ x2 x3 x4, σ = [some (.ref a), some (.ref p), x2, x3, x4]) ⟨Same.refl _, _, _, _, rfl⟩ (fun _ _ _ _ h => sql (h.1 _ _ e4)) ?_ ?_⟩
    · rintro i v σ G' hv ⟨s, x2, x3, x4, rfl⟩
      have ho := hall v (List.mem_of_getElem? hv)
      refine ⟨_, rfl, v, rfl, .inr ⟨(ho G' s).other, fun H1 t1 => ⟨_, _, rfl, rfl, _, rfl, ifnt rfl ?_⟩⟩⟩
      refine ⟨_, rfl, v, rfl, .inr ⟨(ho H1 (s.trans t1)).other, fun H2 t2 => ⟨_, _, rfl, rfl, _, rfl, ifnt rfl ?_⟩⟩⟩
      refine ⟨_, rfl, v, rfl, .inr ⟨(ho H2 ((s.trans t1).trans t2)).other, fun H3 t3 => ⟨_, _, rfl, rfl, _, rfl, ifnt rfl ?_⟩⟩⟩
      refine ⟨_, rfl, v, rfl, .inr ⟨ho H3 (((s.trans t1).trans t2).trans t3), fun H5 t5 => ⟨_, _, rfl, rfl, _, rfl, ifnt rfl ?_⟩⟩⟩
      exact ⟨(((s.trans t1).trans t2).trans t3).trans t5, _, _, _, rfl⟩
    rintro σ G' ⟨s, x2, x3, x4, rfl⟩
    have ep := s _ _ ep
    clear hall e4 s
    -- things that are no counts
    refine ⟨(by show 0 ≤ sizeLine; decide), fun t1 h1 => ⟨(by show 1 ≤ sizeLine; decide), fun t2 h2 => ⟨(by show 6 ≤ sizeLine; decide), fun l hl1 => ?_⟩⟩⟩
    have o1 : ∀ G0, Same (upd G' t1 (.tup [])) G0 → TyX K G0 (.ref t1) (.type "tuple") := fun G0 s => tyx_t (sqt (s _ _ upd_same))
    have s1 := same_upd (o := .tup []) h1
    generalize upd G' t1 (.tup []) = G1 at h2 hl1 o1 s1
    have o2 : ∀ G0, Same (upd G1 t2 (.tup [.int 1])) G0 → TyX K G0 (.ref t2) (.type "tuple") := fun G0 s => tyx_t (sqt (s _ _ upd_same))
    have s2 := same_upd (o := .tup [.int 1]) h2
    generalize upd G1 t2 (.tup [.int 1]) = G2 at hl1 o2 s2
    have s3 := same_upd (o := .lst [.non, .bl true, .bl false, .str "1", .ref t1, .ref t2]) hl1
    have e3 : upd G2 l (.lst [.non, .bl true, .bl false, .str "1", .ref t1, .ref t2]) l = some (.lst [.non, .bl true, .bl false, .str "1", .ref t1, .ref t2]) := upd_same
    generalize upd G2 l (.lst [.non, .bl true, .bl false, .str "1", .ref t1, .ref t2]) = G3 at s3 e3
    have hall : ∀ v ∈ ([.non, .bl true, .bl false, .str "1", .ref t1, .ref t2] : List V), ∃ t, TyX K G3 v (.type t) ∧ (t = "bool" ∨ t = "NoneType" ∨ t = "str" ∨ t = "tuple") := by
      intro v hv
      simp only [List.mem_cons, List.not_mem_nil, or_false] at hv
      rcases hv with rfl | rfl | rfl | rfl | rfl | rfl
      · exact ⟨_, .base .non, .inr (.inl rfl)⟩
      · exact ⟨_, .base (.bl _), .inl rfl⟩
      · exact ⟨_, .base (.bl _), .inl rfl⟩
      · exact ⟨_, .base (.str _), .inr (.inr (.inl rfl))⟩
      · exact ⟨_, o1 _ (s2.trans s3), .inr (.inr (.inr rfl))⟩
      · exact ⟨_, o2 _ s3, .inr (.inr (.inr rfl))⟩
    have ep := s3 _ _ (s2 _ _ (s1 _ _ ep))
    refine ⟨l, rfl, ⟨_, sql e3⟩, for_list (K := K) (a := l) (xs := [.non, .bl true, .bl false, .str "1", .ref t1, .ref t2]) (fun _ σ G' => G' = G3 ∧ ∃ x2 x3 x4, σ = [some (.ref a), some (.ref p), x2, x3, x4]) ⟨rfl, _, _, _, rfl⟩ (fun _ _ _ _ h => by rw [h.1]; exact sql e3) ?_ ?_⟩
    · rintro i v σ _ hv ⟨rfl, x2, x3, x4, rfl⟩
      obtain ⟨t, ht, h4⟩ := hall v (List.mem_of_getElem? hv)
      refine ⟨_, rfl, v, rfl, .inr ⟨t, ht, h4, _, _, rfl, rfl, _, rfl, ifnt rfl ?_⟩⟩
      exact ⟨rfl, _, _, _, rfl⟩
    rintro σ G5 ⟨rfl, x2, x3, x4, rfl⟩
    -- numbers
    refine ⟨6, rfl, by decide, by decide, for_range (lo := 0) (n := 6) (fun _ σ G' => G' = G5 ∧ ∃ x2 x3 x4, σ = [some (.ref a), some (.ref p), x2, x3, x4]) ⟨rfl, _, _, _, rfl⟩ ?_ ?_⟩
    · rintro i σ _ hi ⟨rfl, x2, x3, x4, rfl⟩
      obtain ⟨d, ed, md⟩ := draw_ix (ds := ds) (i := 0 + (i : Int)) (by omega) (by omega)
      obtain ⟨d', ed', md'⟩ := draw_ix (ds := ds) (i := 0 + (i : Int) + 1) (by omega) (by omega)
      have b1 := hD d md
      have b2 := hD d' md'
      refine ⟨_, rfl, _, rfl, p, _, _, _, rfl, rfl, sql ep, ed, _, _, rfl, rfl, .inr ⟨by decide, by decide⟩, _, rfl, _, rfl, _, _, rfl, rfl, p, _, _, _, rfl, rfl, sql ep, ed', _, _, rfl, rfl, _, _, rfl, rfl, ?_⟩
      dsimp only
      have bn : -300 ≤ d * 997 + d' - 300 ∧ d * 997 + d' - 300 < 1000000 := by omega
      generalize d * 997 + d' - 300 = n at bn
      refine ⟨_, rfl, _, rfl, .inl ⟨n, rfl, _, rfl, _, _, rfl, rfl, decide (0 ≤ n ∧ n ≤ 1000000000000), ?_, _, rfl, ifbf rfl ?_⟩⟩
      · have e : decide (0 ≤ n) = decide (0 ≤ n ∧ n ≤ 1000000000000) := by rw [Bool.eq_iff_iff]; simp; omega
        show [_, V.bl (decide (0 ≤ n))] = _
        rw [e]
      refine ⟨_, _, rfl, rfl, ⟨by decide, by decide, by decide⟩, _, rfl, _, _, rfl, rfl, _, rfl, .inl ⟨_, rfl, _, rfl, _, _, rfl, rfl, decide (0 ≤ n), ?_, _, rfl, ifbf rfl ?_⟩⟩
      · have e : decide (0 ≤ (10 : Int) ^ 12 - n ∧ (10 : Int) ^ 12 - n ≤ 1000000000000) = decide (0 ≤ n) := by
          rw [Bool.eq_iff_iff]
          simp
          omega
        show [V.bl (decide (0 ≤ (10 : Int) ^ 12 - n ∧ (10 : Int) ^ 12 - n ≤ 1000000000000)), V.bl (decide (0 ≤ n))] = _
        rw [e]
      exact ⟨rfl, _, _, _, rfl⟩
    rintro σ _ ⟨rfl, x2, x3, x4, rfl⟩
    refine ⟨_, rfl, .inl ⟨0, rfl, _, _, rfl, rfl, _, rfl, ifbt rfl ?_⟩⟩
    refine ⟨_, _, rfl, rfl, ⟨by decide, by decide, by decide⟩, _, rfl, .inl ⟨_, rfl, _, _, rfl, rfl, _, rfl, ifbt (by decide) ?_⟩⟩
    refine ⟨_, _, rfl, rfl, ⟨by decide, by decide, by decide⟩, _, _, rfl, rfl, _, rfl, .inl ⟨_, rfl, _, _, rfl, rfl, ?_⟩⟩
    exact q _
end
theorem all_mk {l : PySem.W.OpenLaw} {w : World} {K : PySem.W.Frag} {h : Heap} {mg : Str → Option Value} {fa : Addr} (X : K.In h) (G : h.Ns mainGlobals mg) (hfa : mg "law" = some (.ref fa))
    {f_has_plain_characters : Addr} {od_has_plain_characters an_has_plain_characters : Option Addr} {sl_has_plain_characters : Array (Option Value)} {oc_has_plain_characters kV_has_plain_characters dc_has_plain_characters pm_has_plain_characters cd_has_plain_characters ct_has_plain_characters : Value} {f_is_integer_within : Addr} {od_is_integer_within an_is_integer_within : Option Addr} {sl_is_integer_within : Array (Option Value)} {oc_is_integer_within kV_is_integer_within dc_is_integer_within pm_is_integer_within cd_is_integer_within ct_is_integer_within : Value} {f_is_plain_name : Addr} {od_is_plain_name an_is_plain_name : Option Addr} {sl_is_plain_name : Array (Option Value)} {oc_is_plain_name kV_is_plain_name dc_is_plain_name pm_is_plain_name cd_is_plain_name ct_is_plain_name : Value} {f_is_slot_name : Addr} {od_is_slot_name an_is_slot_name : Option Addr} {sl_is_slot_name : Array (Option Value)} {oc_is_slot_name kV_is_slot_name dc_is_slot_name pm_is_slot_name cd_is_slot_name ct_is_slot_name : Value} {f_is_text : Addr} {od_is_text an_is_text : Option Addr} {sl_is_text : Array (Option Value)} {oc_is_text kV_is_text dc_is_text pm_is_text cd_is_text ct_is_text : Value} {f_is_count : Addr} {od_is_count an_is_count : Option Addr} {sl_is_count : Array (Option Value)} {oc_is_count kV_is_count dc_is_count pm_is_count cd_is_count ct_is_count : Value} {f_is_zone : Addr} {od_is_zone an_is_zone : Option Addr} {sl_is_zone : Array (Option Value)} {oc_is_zone kV_is_zone dc_is_zone pm_is_zone cd_is_zone ct_is_zone : Value} {f_slot_name : Addr} {od_slot_name an_slot_name : Option Addr} {sl_slot_name : Array (Option Value)} {oc_slot_name kV_slot_name dc_slot_name pm_slot_name cd_slot_name ct_slot_name : Value} {f_split_slot : Addr} {od_split_slot an_split_slot : Option Addr} {sl_split_slot : Array (Option Value)} {oc_split_slot kV_split_slot dc_split_slot pm_split_slot cd_split_slot ct_split_slot : Value} {f__law_is_integer : Addr} {od__law_is_integer an__law_is_integer : Option Addr} {sl__law_is_integer : Array (Option Value)} {oc__law_is_integer kV__law_is_integer dc__law_is_integer pm__law_is_integer cd__law_is_integer ct__law_is_integer : Value} {f__law_draws : Addr} {od__law_draws an__law_draws : Option Addr} {sl__law_draws : Array (Option Value)} {oc__law_draws kV__law_draws dc__law_draws pm__law_draws cd__law_draws ct__law_draws : Value} {f__law_is_name : Addr} {od__law_is_name an__law_is_name : Option Addr} {sl__law_is_name : Array (Option Value)} {oc__law_is_name kV__law_is_name dc__law_is_name pm__law_is_name cd__law_is_name ct__law_is_name : Value} {f__law_is_slot : Addr} {od__law_is_slot an__law_is_slot : Option Addr} {sl__law_is_slot : Array (Option Value)} {oc__law_is_slot kV__law_is_slot dc__law_is_slot pm__law_is_slot cd__law_is_slot ct__law_is_slot : Value} {f__law_is_text : Addr} {od__law_is_text an__law_is_text : Option Addr} {sl__law_is_text : Array (Option Value)} {oc__law_is_text kV__law_is_text dc__law_is_text pm__law_is_text cd__law_is_text ct__law_is_text : Value} {f__law_word : Addr} {od__law_word an__law_word : Option Addr} {sl__law_word : Array (Option Value)} {oc__law_word kV__law_word dc__law_word pm__law_word cd__law_word ct__law_word : Value} {f__law_says : Addr} {od__law_says an__law_says : Option Addr} {sl__law_says : Array (Option Value)} {oc__law_says kV__law_says dc__law_says pm__law_says cd__law_says ct__law_says : Value} {f__law_right : Addr} {od__law_right an__law_right : Option Addr} {sl__law_right : Array (Option Value)} {oc__law_right kV__law_right dc__law_right pm__law_right cd__law_right ct__law_right : Value} {f_law : Addr} {od_law an_law : Option Addr} {sl_law : Array (Option Value)} {oc_law kV_law dc_law pm_law cd_law ct_law : Value} {t_SPACE : Tok} {t_PERCENT : Tok} {t_TILDE : Tok} {t_DIGITS : Tok} {t_NAME_CHARACTERS : Tok} {t_MOST_NAME : Tok} {t_MOST_TEXT : Tok} {t_MOST_COUNT : Tok}
    (g_has_plain_characters : PySem.W.nsIn K mainGlobals "has_plain_characters" = some (some (.ref f_has_plain_characters)))
    (l_has_plain_characters : K.lookup f_has_plain_characters = some ⟨oc_has_plain_characters, od_has_plain_characters, .func (PySem.W.fnOf "has_plain_characters" "has_plain_characters" (defArgs s_has_plain_characters) (defBody s_has_plain_characters) (defScope s_has_plain_characters) .none kV_has_plain_characters dc_has_plain_characters pm_has_plain_characters an_has_plain_characters cd_has_plain_characters ct_has_plain_characters), sl_has_plain_characters⟩)
    (c_has_plain_characters : PySem.W.codeIn K cd_has_plain_characters "has_plain_characters" = true)
    (k_has_plain_characters : PySem.W.keepIn K (.ref f_has_plain_characters) = true)
    (g_is_integer_within : PySem.W.nsIn K mainGlobals "is_integer_within" = some (some (.ref f_is_integer_within)))
    (l_is_integer_within : K.lookup f_is_integer_within = some ⟨oc_is_integer_within, od_is_integer_within, .func (PySem.W.fnOf "is_integer_within" "is_integer_within" (defArgs s_is_integer_within) (defBody s_is_integer_within) (defScope s_is_integer_within) .none kV_is_integer_within dc_is_integer_within pm_is_integer_within an_is_integer_within cd_is_integer_within ct_is_integer_within), sl_is_integer_within⟩)
    (c_is_integer_within : PySem.W.codeIn K cd_is_integer_within "is_integer_within" = true)
    (k_is_integer_within : PySem.W.keepIn K (.ref f_is_integer_within) = true)
    (g_is_plain_name : PySem.W.nsIn K mainGlobals "is_plain_name" = some (some (.ref f_is_plain_name)))
    (l_is_plain_name : K.lookup f_is_plain_name = some ⟨oc_is_plain_name, od_is_plain_name, .func (PySem.W.fnOf "is_plain_name" "is_plain_name" (defArgs s_is_plain_name) (defBody s_is_plain_name) (defScope s_is_plain_name) .none kV_is_plain_name dc_is_plain_name pm_is_plain_name an_is_plain_name cd_is_plain_name ct_is_plain_name), sl_is_plain_name⟩)
    (c_is_plain_name : PySem.W.codeIn K cd_is_plain_name "is_plain_name" = true)
    (k_is_plain_name : PySem.W.keepIn K (.ref f_is_plain_name) = true)
    (g_is_slot_name : PySem.W.nsIn K mainGlobals "is_slot_name" = some (some (.ref f_is_slot_name)))
    (l_is_slot_name : K.lookup f_is_slot_name = some ⟨oc_is_slot_name, od_is_slot_name, .func (PySem.W.fnOf "is_slot_name" "is_slot_name" (defArgs s_is_slot_name) (defBody s_is_slot_name) (defScope s_is_slot_name) .none kV_is_slot_name dc_is_slot_name pm_is_slot_name an_is_slot_name cd_is_slot_name ct_is_slot_name), sl_is_slot_name⟩)
    (c_is_slot_name : PySem.W.codeIn K cd_is_slot_name "is_slot_name" = true)
    (k_is_slot_name : PySem.W.keepIn K (.ref f_is_slot_name) = true)
    (g_is_text : PySem.W.nsIn K mainGlobals "is_text" = some (some (.ref f_is_text)))
    (l_is_text : K.lookup f_is_text = some ⟨oc_is_text, od_is_text, .func (PySem.W.fnOf "is_text" "is_text" (defArgs s_is_text) (defBody s_is_text) (defScope s_is_text) .none kV_is_text dc_is_text pm_is_text an_is_text cd_is_text ct_is_text), sl_is_text⟩)
    (c_is_text : PySem.W.codeIn K cd_is_text "is_text" = true)
    (k_is_text : PySem.W.keepIn K (.ref f_is_text) = true)
    (g_is_count : PySem.W.nsIn K mainGlobals "is_count" = some (some (.ref f_is_count)))
    (l_is_count : K.lookup f_is_count = some ⟨oc_is_count, od_is_count, .func (PySem.W.fnOf "is_count" "is_count" (defArgs s_is_count) (defBody s_is_count) (defScope s_is_count) .none kV_is_count dc_is_count pm_is_count an_is_count cd_is_count ct_is_count), sl_is_count⟩)
    (c_is_count : PySem.W.codeIn K cd_is_count "is_count" = true)
    (k_is_count : PySem.W.keepIn K (.ref f_is_count) = true)
    (g_is_zone : PySem.W.nsIn K mainGlobals "is_zone" = some (some (.ref f_is_zone)))
    (l_is_zone : K.lookup f_is_zone = some ⟨oc_is_zone, od_is_zone, .func (PySem.W.fnOf "is_zone" "is_zone" (defArgs s_is_zone) (defBody s_is_zone) (defScope s_is_zone) .none kV_is_zone dc_is_zone pm_is_zone an_is_zone cd_is_zone ct_is_zone), sl_is_zone⟩)
    (c_is_zone : PySem.W.codeIn K cd_is_zone "is_zone" = true)
    (k_is_zone : PySem.W.keepIn K (.ref f_is_zone) = true)
    (g_slot_name : PySem.W.nsIn K mainGlobals "slot_name" = some (some (.ref f_slot_name)))
    (l_slot_name : K.lookup f_slot_name = some ⟨oc_slot_name, od_slot_name, .func (PySem.W.fnOf "slot_name" "slot_name" (defArgs s_slot_name) (defBody s_slot_name) (defScope s_slot_name) .none kV_slot_name dc_slot_name pm_slot_name an_slot_name cd_slot_name ct_slot_name), sl_slot_name⟩)
    (c_slot_name : PySem.W.codeIn K cd_slot_name "slot_name" = true)
    (k_slot_name : PySem.W.keepIn K (.ref f_slot_name) = true)
    (g_split_slot : PySem.W.nsIn K mainGlobals "split_slot" = some (some (.ref f_split_slot)))
    (l_split_slot : K.lookup f_split_slot = some ⟨oc_split_slot, od_split_slot, .func (PySem.W.fnOf "split_slot" "split_slot" (defArgs s_split_slot) (defBody s_split_slot) (defScope s_split_slot) .none kV_split_slot dc_split_slot pm_split_slot an_split_slot cd_split_slot ct_split_slot), sl_split_slot⟩)
    (c_split_slot : PySem.W.codeIn K cd_split_slot "split_slot" = true)
    (k_split_slot : PySem.W.keepIn K (.ref f_split_slot) = true)
    (g__law_is_integer : PySem.W.nsIn K mainGlobals "_law_is_integer" = some (some (.ref f__law_is_integer)))
    (l__law_is_integer : K.lookup f__law_is_integer = some ⟨oc__law_is_integer, od__law_is_integer, .func (PySem.W.fnOf "_law_is_integer" "_law_is_integer" (defArgs s__law_is_integer) (defBody s__law_is_integer) (defScope s__law_is_integer) .none kV__law_is_integer dc__law_is_integer pm__law_is_integer an__law_is_integer cd__law_is_integer ct__law_is_integer), sl__law_is_integer⟩)
    (c__law_is_integer : PySem.W.codeIn K cd__law_is_integer "_law_is_integer" = true)
    (k__law_is_integer : PySem.W.keepIn K (.ref f__law_is_integer) = true)
    (g__law_draws : PySem.W.nsIn K mainGlobals "_law_draws" = some (some (.ref f__law_draws)))
    (l__law_draws : K.lookup f__law_draws = some ⟨oc__law_draws, od__law_draws, .func (PySem.W.fnOf "_law_draws" "_law_draws" (defArgs s__law_draws) (defBody s__law_draws) (defScope s__law_draws) .none kV__law_draws dc__law_draws pm__law_draws an__law_draws cd__law_draws ct__law_draws), sl__law_draws⟩)
    (c__law_draws : PySem.W.codeIn K cd__law_draws "_law_draws" = true)
    (k__law_draws : PySem.W.keepIn K (.ref f__law_draws) = true)
    (g__law_is_name : PySem.W.nsIn K mainGlobals "_law_is_name" = some (some (.ref f__law_is_name)))
    (l__law_is_name : K.lookup f__law_is_name = some ⟨oc__law_is_name, od__law_is_name, .func (PySem.W.fnOf "_law_is_name" "_law_is_name" (defArgs s__law_is_name) (defBody s__law_is_name) (defScope s__law_is_name) .none kV__law_is_name dc__law_is_name pm__law_is_name an__law_is_name cd__law_is_name ct__law_is_name), sl__law_is_name⟩)
    (c__law_is_name : PySem.W.codeIn K cd__law_is_name "_law_is_name" = true)
    (k__law_is_name : PySem.W.keepIn K (.ref f__law_is_name) = true)
    (g__law_is_slot : PySem.W.nsIn K mainGlobals "_law_is_slot" = some (some (.ref f__law_is_slot)))
    (l__law_is_slot : K.lookup f__law_is_slot = some ⟨oc__law_is_slot, od__law_is_slot, .func (PySem.W.fnOf "_law_is_slot" "_law_is_slot" (defArgs s__law_is_slot) (defBody s__law_is_slot) (defScope s__law_is_slot) .none kV__law_is_slot dc__law_is_slot pm__law_is_slot an__law_is_slot cd__law_is_slot ct__law_is_slot), sl__law_is_slot⟩)
    (c__law_is_slot : PySem.W.codeIn K cd__law_is_slot "_law_is_slot" = true)
    (k__law_is_slot : PySem.W.keepIn K (.ref f__law_is_slot) = true)
    (g__law_is_text : PySem.W.nsIn K mainGlobals "_law_is_text" = some (some (.ref f__law_is_text)))
    (l__law_is_text : K.lookup f__law_is_text = some ⟨oc__law_is_text, od__law_is_text, .func (PySem.W.fnOf "_law_is_text" "_law_is_text" (defArgs s__law_is_text) (defBody s__law_is_text) (defScope s__law_is_text) .none kV__law_is_text dc__law_is_text pm__law_is_text an__law_is_text cd__law_is_text ct__law_is_text), sl__law_is_text⟩)
    (c__law_is_text : PySem.W.codeIn K cd__law_is_text "_law_is_text" = true)
    (k__law_is_text : PySem.W.keepIn K (.ref f__law_is_text) = true)
    (g__law_word : PySem.W.nsIn K mainGlobals "_law_word" = some (some (.ref f__law_word)))
    (l__law_word : K.lookup f__law_word = some ⟨oc__law_word, od__law_word, .func (PySem.W.fnOf "_law_word" "_law_word" (defArgs s__law_word) (defBody s__law_word) (defScope s__law_word) .none kV__law_word dc__law_word pm__law_word an__law_word cd__law_word ct__law_word), sl__law_word⟩)
    (c__law_word : PySem.W.codeIn K cd__law_word "_law_word" = true)
    (k__law_word : PySem.W.keepIn K (.ref f__law_word) = true)
    (g__law_says : PySem.W.nsIn K mainGlobals "_law_says" = some (some (.ref f__law_says)))
    (l__law_says : K.lookup f__law_says = some ⟨oc__law_says, od__law_says, .func (PySem.W.fnOf "_law_says" "_law_says" (defArgs s__law_says) (defBody s__law_says) (defScope s__law_says) .none kV__law_says dc__law_says pm__law_says an__law_says cd__law_says ct__law_says), sl__law_says⟩)
    (c__law_says : PySem.W.codeIn K cd__law_says "_law_says" = true)
    (k__law_says : PySem.W.keepIn K (.ref f__law_says) = true)
    (g__law_right : PySem.W.nsIn K mainGlobals "_law_right" = some (some (.ref f__law_right)))
    (l__law_right : K.lookup f__law_right = some ⟨oc__law_right, od__law_right, .func (PySem.W.fnOf "_law_right" "_law_right" (defArgs s__law_right) (defBody s__law_right) (defScope s__law_right) .none kV__law_right dc__law_right pm__law_right an__law_right cd__law_right ct__law_right), sl__law_right⟩)
    (c__law_right : PySem.W.codeIn K cd__law_right "_law_right" = true)
    (k__law_right : PySem.W.keepIn K (.ref f__law_right) = true)
    (g_law : PySem.W.nsIn K mainGlobals "law" = some (some (.ref f_law)))
    (l_law : K.lookup f_law = some ⟨oc_law, od_law, .func (PySem.W.fnOf "law" "law" (defArgs s_law) (defBody s_law) (defScope s_law) .none kV_law dc_law pm_law an_law cd_law ct_law), sl_law⟩)
    (c_law : PySem.W.codeIn K cd_law "law" = true)
    (k_law : PySem.W.keepIn K (.ref f_law) = true)
    (c_SPACE : PySem.W.nsIn K mainGlobals "SPACE" = some (some (.int 32 t_SPACE)))
    (c_PERCENT : PySem.W.nsIn K mainGlobals "PERCENT" = some (some (.int 37 t_PERCENT)))
    (c_TILDE : PySem.W.nsIn K mainGlobals "TILDE" = some (some (.int 126 t_TILDE)))
    (c_DIGITS : PySem.W.nsIn K mainGlobals "DIGITS" = some (some (.str "0123456789" t_DIGITS)))
    (c_NAME_CHARACTERS : PySem.W.nsIn K mainGlobals "NAME_CHARACTERS" = some (some (.str "abcdefghijklmnopqrstuvwxyz0123456789" t_NAME_CHARACTERS)))
    (c_MOST_NAME : PySem.W.nsIn K mainGlobals "MOST_NAME" = some (some (.int 12 t_MOST_NAME)))
    (c_MOST_TEXT : PySem.W.nsIn K mainGlobals "MOST_TEXT" = some (some (.int 40 t_MOST_TEXT)))
    (c_MOST_COUNT : PySem.W.nsIn K mainGlobals "MOST_COUNT" = some (some (.int 1000000000000 t_MOST_COUNT)))
    (n_ord : PySem.W.nsIn K mainGlobals "ord" = some none)
    (n_len : PySem.W.nsIn K mainGlobals "len" = some none)
    (n_isinstance : PySem.W.nsIn K mainGlobals "isinstance" = some none)
    (n_str : PySem.W.nsIn K mainGlobals "str" = some none)
    (n_all : PySem.W.nsIn K mainGlobals "all" = some none)
    (n_int : PySem.W.nsIn K mainGlobals "int" = some none)
    (n_bool : PySem.W.nsIn K mainGlobals "bool" = some none)
    (n_range : PySem.W.nsIn K mainGlobals "range" = some none)
    (n_abs : PySem.W.nsIn K mainGlobals "abs" = some none)
    (n_tuple : PySem.W.nsIn K mainGlobals "tuple" = some none) :
    ∃ fd : FuncData, (∀ (s : Shared) (v : Value), BindsTo s fd ⟨[v], []⟩ [("script", v)]) ∧ ∀ base : Heap, K.In base → base.Ns mainGlobals mg → FnOk l.prog w K mg base CX0 5 fa fd ["script"] (sp_law K) := by
  have e : fa = f_law := by
    have z := hfa.symm.trans (PySem.W.mg_of X G g_law)
    injection z with z
    injection z
  rw [e]
  let T : TX K mg := ⟨f_has_plain_characters, (PySem.W.fnOf "has_plain_characters" "has_plain_characters" (defArgs s_has_plain_characters) (defBody s_has_plain_characters) (defScope s_has_plain_characters) .none kV_has_plain_characters dc_has_plain_characters pm_has_plain_characters an_has_plain_characters cd_has_plain_characters ct_has_plain_characters), (fun_mk (st := s_has_plain_characters) l_has_plain_characters c_has_plain_characters k_has_plain_characters), ((fun_mk (st := s_has_plain_characters) l_has_plain_characters c_has_plain_characters k_has_plain_characters).binds (ps := ["text"]) fun _ _ _ _ _ _ us hl => match us, hl with | [_], _ => rfl), (PySem.W.mg_of X G g_has_plain_characters), f_is_integer_within, (PySem.W.fnOf "is_integer_within" "is_integer_within" (defArgs s_is_integer_within) (defBody s_is_integer_within) (defScope s_is_integer_within) .none kV_is_integer_within dc_is_integer_within pm_is_integer_within an_is_integer_within cd_is_integer_within ct_is_integer_within), (fun_mk (st := s_is_integer_within) l_is_integer_within c_is_integer_within k_is_integer_within), ((fun_mk (st := s_is_integer_within) l_is_integer_within c_is_integer_within k_is_integer_within).binds (ps := ["number", "low", "high"]) fun _ _ _ _ _ _ us hl => match us, hl with | [_, _, _], _ => rfl), (PySem.W.mg_of X G g_is_integer_within), f_is_plain_name, (PySem.W.fnOf "is_plain_name" "is_plain_name" (defArgs s_is_plain_name) (defBody s_is_plain_name) (defScope s_is_plain_name) .none kV_is_plain_name dc_is_plain_name pm_is_plain_name an_is_plain_name cd_is_plain_name ct_is_plain_name), (fun_mk (st := s_is_plain_name) l_is_plain_name c_is_plain_name k_is_plain_name), ((fun_mk (st := s_is_plain_name) l_is_plain_name c_is_plain_name k_is_plain_name).binds (ps := ["name"]) fun _ _ _ _ _ _ us hl => match us, hl with | [_], _ => rfl), (PySem.W.mg_of X G g_is_plain_name), f_is_slot_name, (PySem.W.fnOf "is_slot_name" "is_slot_name" (defArgs s_is_slot_name) (defBody s_is_slot_name) (defScope s_is_slot_name) .none kV_is_slot_name dc_is_slot_name pm_is_slot_name an_is_slot_name cd_is_slot_name ct_is_slot_name), (fun_mk (st := s_is_slot_name) l_is_slot_name c_is_slot_name k_is_slot_name), ((fun_mk (st := s_is_slot_name) l_is_slot_name c_is_slot_name k_is_slot_name).binds (ps := ["name"]) fun _ _ _ _ _ _ us hl => match us, hl with | [_], _ => rfl), (PySem.W.mg_of X G g_is_slot_name), f_is_text, (PySem.W.fnOf "is_text" "is_text" (defArgs s_is_text) (defBody s_is_text) (defScope s_is_text) .none kV_is_text dc_is_text pm_is_text an_is_text cd_is_text ct_is_text), (fun_mk (st := s_is_text) l_is_text c_is_text k_is_text), ((fun_mk (st := s_is_text) l_is_text c_is_text k_is_text).binds (ps := ["text"]) fun _ _ _ _ _ _ us hl => match us, hl with | [_], _ => rfl), (PySem.W.mg_of X G g_is_text), f_is_count, (PySem.W.fnOf "is_count" "is_count" (defArgs s_is_count) (defBody s_is_count) (defScope s_is_count) .none kV_is_count dc_is_count pm_is_count an_is_count cd_is_count ct_is_count), (fun_mk (st := s_is_count) l_is_count c_is_count k_is_count), ((fun_mk (st := s_is_count) l_is_count c_is_count k_is_count).binds (ps := ["number"]) fun _ _ _ _ _ _ us hl => match us, hl with | [_], _ => rfl), (PySem.W.mg_of X G g_is_count), f_is_zone, (PySem.W.fnOf "is_zone" "is_zone" (defArgs s_is_zone) (defBody s_is_zone) (defScope s_is_zone) .none kV_is_zone dc_is_zone pm_is_zone an_is_zone cd_is_zone ct_is_zone), (fun_mk (st := s_is_zone) l_is_zone c_is_zone k_is_zone), ((fun_mk (st := s_is_zone) l_is_zone c_is_zone k_is_zone).binds (ps := ["zone"]) fun _ _ _ _ _ _ us hl => match us, hl with | [_], _ => rfl), (PySem.W.mg_of X G g_is_zone), f_slot_name, (PySem.W.fnOf "slot_name" "slot_name" (defArgs s_slot_name) (defBody s_slot_name) (defScope s_slot_name) .none kV_slot_name dc_slot_name pm_slot_name an_slot_name cd_slot_name ct_slot_name), (fun_mk (st := s_slot_name) l_slot_name c_slot_name k_slot_name), ((fun_mk (st := s_slot_name) l_slot_name c_slot_name k_slot_name).binds (ps := ["name", "number"]) fun _ _ _ _ _ _ us hl => match us, hl with | [_, _], _ => rfl), (PySem.W.mg_of X G g_slot_name), f_split_slot, (PySem.W.fnOf "split_slot" "split_slot" (defArgs s_split_slot) (defBody s_split_slot) (defScope s_split_slot) .none kV_split_slot dc_split_slot pm_split_slot an_split_slot cd_split_slot ct_split_slot), (fun_mk (st := s_split_slot) l_split_slot c_split_slot k_split_slot), ((fun_mk (st := s_split_slot) l_split_slot c_split_slot k_split_slot).binds (ps := ["slot"]) fun _ _ _ _ _ _ us hl => match us, hl with | [_], _ => rfl), (PySem.W.mg_of X G g_split_slot), f__law_is_integer, (PySem.W.fnOf "_law_is_integer" "_law_is_integer" (defArgs s__law_is_integer) (defBody s__law_is_integer) (defScope s__law_is_integer) .none kV__law_is_integer dc__law_is_integer pm__law_is_integer an__law_is_integer cd__law_is_integer ct__law_is_integer), (fun_mk (st := s__law_is_integer) l__law_is_integer c__law_is_integer k__law_is_integer), ((fun_mk (st := s__law_is_integer) l__law_is_integer c__law_is_integer k__law_is_integer).binds (ps := ["actual"]) fun _ _ _ _ _ _ us hl => match us, hl with | [_], _ => rfl), (PySem.W.mg_of X G g__law_is_integer), f__law_draws, (PySem.W.fnOf "_law_draws" "_law_draws" (defArgs s__law_draws) (defBody s__law_draws) (defScope s__law_draws) .none kV__law_draws dc__law_draws pm__law_draws an__law_draws cd__law_draws ct__law_draws), (fun_mk (st := s__law_draws) l__law_draws c__law_draws k__law_draws), ((fun_mk (st := s__law_draws) l__law_draws c__law_draws k__law_draws).binds (ps := ["script", "many"]) fun _ _ _ _ _ _ us hl => match us, hl with | [_, _], _ => rfl), (PySem.W.mg_of X G g__law_draws), f__law_is_name, (PySem.W.fnOf "_law_is_name" "_law_is_name" (defArgs s__law_is_name) (defBody s__law_is_name) (defScope s__law_is_name) .none kV__law_is_name dc__law_is_name pm__law_is_name an__law_is_name cd__law_is_name ct__law_is_name), (fun_mk (st := s__law_is_name) l__law_is_name c__law_is_name k__law_is_name), ((fun_mk (st := s__law_is_name) l__law_is_name c__law_is_name k__law_is_name).binds (ps := ["word"]) fun _ _ _ _ _ _ us hl => match us, hl with | [_], _ => rfl), (PySem.W.mg_of X G g__law_is_name), f__law_is_slot, (PySem.W.fnOf "_law_is_slot" "_law_is_slot" (defArgs s__law_is_slot) (defBody s__law_is_slot) (defScope s__law_is_slot) .none kV__law_is_slot dc__law_is_slot pm__law_is_slot an__law_is_slot cd__law_is_slot ct__law_is_slot), (fun_mk (st := s__law_is_slot) l__law_is_slot c__law_is_slot k__law_is_slot), ((fun_mk (st := s__law_is_slot) l__law_is_slot c__law_is_slot k__law_is_slot).binds (ps := ["word"]) fun _ _ _ _ _ _ us hl => match us, hl with | [_], _ => rfl), (PySem.W.mg_of X G g__law_is_slot), f__law_is_text, (PySem.W.fnOf "_law_is_text" "_law_is_text" (defArgs s__law_is_text) (defBody s__law_is_text) (defScope s__law_is_text) .none kV__law_is_text dc__law_is_text pm__law_is_text an__law_is_text cd__law_is_text ct__law_is_text), (fun_mk (st := s__law_is_text) l__law_is_text c__law_is_text k__law_is_text), ((fun_mk (st := s__law_is_text) l__law_is_text c__law_is_text k__law_is_text).binds (ps := ["word"]) fun _ _ _ _ _ _ us hl => match us, hl with | [_], _ => rfl), (PySem.W.mg_of X G g__law_is_text), f__law_word, (PySem.W.fnOf "_law_word" "_law_word" (defArgs s__law_word) (defBody s__law_word) (defScope s__law_word) .none kV__law_word dc__law_word pm__law_word an__law_word cd__law_word ct__law_word), (fun_mk (st := s__law_word) l__law_word c__law_word k__law_word), ((fun_mk (st := s__law_word) l__law_word c__law_word k__law_word).binds (ps := ["draws"]) fun _ _ _ _ _ _ us hl => match us, hl with | [_], _ => rfl), (PySem.W.mg_of X G g__law_word), f__law_says, (PySem.W.fnOf "_law_says" "_law_says" (defArgs s__law_says) (defBody s__law_says) (defScope s__law_says) .none kV__law_says dc__law_says pm__law_says an__law_says cd__law_says ct__law_says), (fun_mk (st := s__law_says) l__law_says c__law_says k__law_says), ((fun_mk (st := s__law_says) l__law_says c__law_says k__law_says).binds (ps := ["actual", "expected"]) fun _ _ _ _ _ _ us hl => match us, hl with | [_, _], _ => rfl), (PySem.W.mg_of X G g__law_says), f__law_right, (PySem.W.fnOf "_law_right" "_law_right" (defArgs s__law_right) (defBody s__law_right) (defScope s__law_right) .none kV__law_right dc__law_right pm__law_right an__law_right cd__law_right ct__law_right), (fun_mk (st := s__law_right) l__law_right c__law_right k__law_right), ((fun_mk (st := s__law_right) l__law_right c__law_right k__law_right).binds (ps := ["word"]) fun _ _ _ _ _ _ us hl => match us, hl with | [_], _ => rfl), (PySem.W.mg_of X G g__law_right), f_law, (PySem.W.fnOf "law" "law" (defArgs s_law) (defBody s_law) (defScope s_law) .none kV_law dc_law pm_law an_law cd_law ct_law), (fun_mk (st := s_law) l_law c_law k_law), ((fun_mk (st := s_law) l_law c_law k_law).binds (ps := ["script"]) fun _ _ _ _ _ _ us hl => match us, hl with | [_], _ => rfl), (PySem.W.mg_of X G g_law), t_SPACE, (PySem.W.mg_of X G c_SPACE), t_PERCENT, (PySem.W.mg_of X G c_PERCENT), t_TILDE, (PySem.W.mg_of X G c_TILDE), t_DIGITS, (PySem.W.mg_of X G c_DIGITS), t_NAME_CHARACTERS, (PySem.W.mg_of X G c_NAME_CHARACTERS), t_MOST_NAME, (PySem.W.mg_of X G c_MOST_NAME), t_MOST_TEXT, (PySem.W.mg_of X G c_MOST_TEXT), t_MOST_COUNT, (PySem.W.mg_of X G c_MOST_COUNT), (PySem.W.mg_none_of X G n_ord), (PySem.W.mg_none_of X G n_len), (PySem.W.mg_none_of X G n_isinstance), (PySem.W.mg_none_of X G n_str), (PySem.W.mg_none_of X G n_all), (PySem.W.mg_none_of X G n_int), (PySem.W.mg_none_of X G n_bool), (PySem.W.mg_none_of X G n_range), (PySem.W.mg_none_of X G n_abs), (PySem.W.mg_none_of X G n_tuple)⟩
  exact ⟨T.d_law, fun s v => .of_eq rfl, fun base _ _ => ok_law T⟩
end My
open PySem PySem.W PyProof.Rows
set_option maxHeartbeats 0 in
theorem PySem.Challenge.cw_majordomo_k29_names_and_texts_holds : PySem.Challenge.rw_majordomo_k29_names_and_texts.Holds := by
  w_on; o_law; k_head; (case hw => w_witness2)
  k_fill
  refine L2.walk_of (l := PySem.Challenge.rw_majordomo_k29_names_and_texts) (n := 63) (k := 5) (x := "script") (CX := (fun _ => L2.CX0)) (sp := fun w => My.sp_law _) rfl (by decide) rfl ⟨rfl, by decide, by decide⟩ (fun w h Y => PySem.W.kIn_of Y) ?F (fun _ _ a ns hl _ hS => ⟨a, ns, rfl, hS, hl, fun _ => rfl⟩) (fun _ _ _ _ _ h => h)
  case F =>
    intro w mg fa h KX G hmg
    refine' My.all_mk KX G hmg ?g_has_plain_characters ?l_has_plain_characters ?c_has_plain_characters ?k_has_plain_characters ?g_is_integer_within ?l_is_integer_within ?c_is_integer_within ?k_is_integer_within ?g_is_plain_name ?l_is_plain_name ?c_is_plain_name ?k_is_plain_name ?g_is_slot_name ?l_is_slot_name ?c_is_slot_name ?k_is_slot_name ?g_is_text ?l_is_text ?c_is_text ?k_is_text ?g_is_count ?l_is_count ?c_is_count ?k_is_count ?g_is_zone ?l_is_zone ?c_is_zone ?k_is_zone ?g_slot_name ?l_slot_name ?c_slot_name ?k_slot_name ?g_split_slot ?l_split_slot ?c_split_slot ?k_split_slot ?g__law_is_integer ?l__law_is_integer ?c__law_is_integer ?k__law_is_integer ?g__law_draws ?l__law_draws ?c__law_draws ?k__law_draws ?g__law_is_name ?l__law_is_name ?c__law_is_name ?k__law_is_name ?g__law_is_slot ?l__law_is_slot ?c__law_is_slot ?k__law_is_slot ?g__law_is_text ?l__law_is_text ?c__law_is_text ?k__law_is_text ?g__law_word ?l__law_word ?c__law_word ?k__law_word ?g__law_says ?l__law_says ?c__law_says ?k__law_says ?g__law_right ?l__law_right ?c__law_right ?k__law_right ?g_law ?l_law ?c_law ?k_law ?c_SPACE ?c_PERCENT ?c_TILDE ?c_DIGITS ?c_NAME_CHARACTERS ?c_MOST_NAME ?c_MOST_TEXT ?c_MOST_COUNT ?n_ord ?n_len ?n_isinstance ?n_str ?n_all ?n_int ?n_bool ?n_range ?n_abs ?n_tuple
    (case g_has_plain_characters => k_is); (case l_has_plain_characters => k_is); (case c_has_plain_characters => k_is); (case k_has_plain_characters => k_is); (case g_is_integer_within => k_is); (case l_is_integer_within => k_is); (case c_is_integer_within => k_is); (case k_is_integer_within => k_is); (case g_is_plain_name => k_is); (case l_is_plain_name => k_is); (case c_is_plain_name => k_is); (case k_is_plain_name => k_is); (case g_is_slot_name => k_is); (case l_is_slot_name => k_is); (case c_is_slot_name => k_is); (case k_is_slot_name => k_is); (case g_is_text => k_is); (case l_is_text => k_is); (case c_is_text => k_is); (case k_is_text => k_is); (case g_is_count => k_is); (case l_is_count => k_is); (case c_is_count => k_is); (case k_is_count => k_is); (case g_is_zone => k_is); (case l_is_zone => k_is); (case c_is_zone => k_is); (case k_is_zone => k_is); (case g_slot_name => k_is); (case l_slot_name => k_is); (case c_slot_name => k_is); (case k_slot_name => k_is); (case g_split_slot => k_is); (case l_split_slot => k_is); (case c_split_slot => k_is); (case k_split_slot => k_is); (case g__law_is_integer => k_is); (case l__law_is_integer => k_is); (case c__law_is_integer => k_is); (case k__law_is_integer => k_is); (case g__law_draws => k_is); (case l__law_draws => k_is); (case c__law_draws => k_is); (case k__law_draws => k_is); (case g__law_is_name => k_is); (case l__law_is_name => k_is); (case c__law_is_name => k_is); (case k__law_is_name => k_is); (case g__law_is_slot => k_is); (case l__law_is_slot => k_is); (case c__law_is_slot => k_is); (case k__law_is_slot => k_is); (case g__law_is_text => k_is); (case l__law_is_text => k_is); (case c__law_is_text => k_is); (case k__law_is_text => k_is); (case g__law_word => k_is); (case l__law_word => k_is); (case c__law_word => k_is); (case k__law_word => k_is); (case g__law_says => k_is); (case l__law_says => k_is); (case c__law_says => k_is); (case k__law_says => k_is); (case g__law_right => k_is); (case l__law_right => k_is); (case c__law_right => k_is); (case k__law_right => k_is); (case g_law => k_is); (case l_law => k_is); (case c_law => k_is); (case k_law => k_is); (case c_SPACE => k_is); (case c_PERCENT => k_is); (case c_TILDE => k_is); (case c_DIGITS => k_is); (case c_NAME_CHARACTERS => k_is); (case c_MOST_NAME => k_is); (case c_MOST_TEXT => k_is); (case c_MOST_COUNT => k_is); (case n_ord => k_is); (case n_len => k_is); (case n_isinstance => k_is); (case n_str => k_is); (case n_all => k_is); (case n_int => k_is); (case n_bool => k_is); (case n_range => k_is); (case n_abs => k_is); (case n_tuple => k_is)

