import Derived.Test.YtalmoiogbdahcaaGreatZSetA
import Derived.Test.YtalmoiogbdahcaaGreatZLawP
import Derived.Test.YtalmoiogbdahcaaGreatZKepA
import Derived.Test.YtalmoiogbdahcaaGreatZKrlB
import Derived.Test.YtalmoiogbdahcaaGreatZNedA
import Derived.Test.YtalmoiogbdahcaaGreatYAskA
namespace Go.Proofs.YtalmoiogbdahcaaGreat
set_option maxRecDepth 100000
set_option maxHeartbeats 8000000
open Go.RowKit Go.Shelf
theorem KG.doc {w : World} {B gb : Nat} {g : Pg} {m : List (Value × Value)} {lo : Nat} {xs now : List ByteArray} (h : KG w B gb g m lo xs now) : DocOk xs now := by
 refine ⟨fun y hy => ?_, h.few, fun s hs => ?_, h.nl⟩
 ·obtain ⟨j, hj⟩ := List.mem_iff_getElem?.1 hy
  exact ok_all h.okx j y hj
 ·rw [← tuple_same]; exact (h.tup s hs).1
theorem que_sizesK (s : ByteArray) (hs : s.size <= maxLen) : okNd (queX s) := by
 have h0 : (rd0 s).rest.size = s.size := rfl
 have h1 := node_names (rd0 s)
 rw [h0] at h1
 refine ⟨Nat.le_trans h1.1 hs, ?_, Nat.le_trans h1.2 hs⟩
 have h2 := name_size (rd0 s)
 have h3 := must_size (rd0 s).name { data := #[58] }
 have h4 := nameOf_size ((rd0 s).name.must { data := #[58] }).rest
 have : (queX s).n.size <= ((rd0 s).name.must { data := #[58] }).rest.size := h4
 omega
theorem KG.gate {w : World} {B gb : Nat} {g : Pg} {m : List (Value × Value)} {lo : Nat} {xs now : List ByteArray} (h : KG w B gb g m lo xs now) (s : ByteArray) (hs : s.size <= maxLen) : GateQ (relU xs now s) xs now gb g w :=
 gateQ_of h.pg h.lk ⟨_, _, h.map, h.rmap⟩ h.tv h.nl h.few (fun y hy => (read_rule y (h.doc.hv y hy)).1) h.doc.ht s (que_sizesK s hs).2.2
def tupT (x y : Nod) : ByteArray := txT x ++ ⟨#[64]⟩ ++ txT y
theorem tupT_mk {x y : Nod} {k n r k2 n2 : List UInt8} {o : Option (List UInt8)} (hx : NmN x k n (some r)) (hy : NmN y k2 n2 o) : tupT x y = mk (k ++ 58 :: (n ++ 35 :: (r ++ 64 :: (k2 ++ 58 :: (n2 ++ otail o))))) := by
 unfold tupT
 rw [nmN_txt hx, nmN_txt hy]
 refine bytes_ext ?_
 simp [mk, otail]
def kOf (c : Int) : ByteArray := kT ((pickN c 1099511627776).toNat % 9) ((pickN c 1099511627776).toNat / 16) ((pickN c 1099511627776).toNat / 64)
theorem kOf_ok (c : Int) : faultS (ruleOfs krules) (⟨#[43]⟩ ++ kOf c) = 0 /\ (⟨#[43]⟩ ++ kOf c).size <= 100 := kT_fault _ _ _ (by omega)
theorem kTuple_any (c : Int) (w : World) (h1 : -9223372036854775808 <= c) (h2 : c <= 9223372036854775807) :
  Calls Tryz.prog 39 #[.int .i64 c] w fun e w' => e = .returned (.string (kOf c)) /\ Below w.heap.size w w' := by
 have hp := kPick_any c 1099511627776 w h1 h2 (by decide) (by decide)
 obtain ⟨b1, b2⟩ := pickN_bd c 1099511627776 (by decide)
 obtain ⟨v, hv⟩ := Int.eq_ofNat_of_zero_le b1
 unfold kOf
 rw [hv] at hp b2 ⊢
 have hvt : ((v : Nat) : Int).toNat = v := by omega
 rw [hvt]
 exact kTuple_k c v (v % 9) w hp (by omega) rfl (by omega)
def IntsAt (w : World) (v : Value) (cs : List Int) : Prop :=
 ((∃ x c, v = .slice x 0 c) /\ cs = []) \/ ∃ b off cap, v = .slice (some ⟨b, off, none⟩) cs.length cap /\ b < w.heap.size /\ ∀ i c, cs[i]? = some c -> w.cell? ⟨b, off + i, none⟩ = some (.int .i64 c)
def putN (now : List ByteArray) (l : List ByteArray) : List ByteArray := l.foldl (fun n s => withL n s true) now
theorem with_len {l : List ByteArray} (hs : Sorted l) (x : ByteArray) : (withL l x true).length <= l.length + 1 := by
 obtain ⟨i, hp⟩ := place_ex hs x
 have h1 := sorted_nodup (with_sorted hs hp true)
 have h2 := nodup_sub_len (withL l x true) (x :: l) h1 fun a ha => by
  rcases (mem_with hs x a).1 ha with e | e
  ·exact List.mem_cons_of_mem _ e
  ·rw [e]; exact List.mem_cons_self ..
 simpa using h2
theorem putN_ok : ∀ (l now : List ByteArray), Sorted now -> Sorted (putN now l) /\ (putN now l).length <= now.length + l.length /\ ∀ s, s ∈ putN now l ↔ s ∈ now \/ s ∈ l := by
 intro l
 induction l with
 | nil => intro now h; exact ⟨h, by simp [putN], fun s => by simp [putN]⟩
 | cons a l ih =>
  intro now h
  obtain ⟨i, hp⟩ := place_ex h a
  obtain ⟨h1, h2, h3⟩ := ih (withL now a true) (with_sorted h hp true)
  refine ⟨h1, ?_, fun s => ?_⟩
  ·have := with_len h a
   have h4 : (putN now (a :: l)).length = (putN (withL now a true) l).length := rfl
   rw [h4, List.length_cons]; omega
  ·have : s ∈ putN now (a :: l) ↔ s ∈ putN (withL now a true) l := Iff.rfl
   rw [this, h3, mem_with h, List.mem_cons, or_assoc]
theorem putN_snoc (now l : List ByteArray) (s : ByteArray) : putN now (l ++ [s]) = withL (putN now l) s true := by
 unfold putN; rw [List.foldl_append]; rfl
structure PutI (w : World) (B gb : Nat) (ver : Int) (m : List (Value × Value)) (lo : Nat) (xs now l : List ByteArray) (lv : Value) (wr : World) : Prop where
 own : wr.ownsRow w.heap.size 9 1 lv l.length (strV l)
 kg : ∃ g, g.ver = ver + l.length /\ KG wr B gb g m lo xs (putN now l)
 kept : w.grownBy wr (some gb)
theorem PutI.step {w : World} {B gb : Nat} {ver : Int} {m : List (Value × Value)} {lo : Nat} {xs now l : List ByteArray} {lv : Value} {wr : World} (h : PutI w B gb ver m lo xs now l lv wr) (hs0 : Sorted now) (hn : now.length + l.length <= 49) (hv0 : 0 <= ver) (hv : ver <= 900000) (hgb : gb < w.heap.size) (s : ByteArray) (HF : Hid (faultS (ruleOfs xs) (⟨#[43]⟩ ++ s) = 0)) (hsz : (⟨#[43]⟩ ++ s : ByteArray).size <= 100) {w2 : World} (hb : Below wr.heap.size wr w2) :
  Calls Tryz.prog 24 #[.pointer (some ⟨gb, 0, none⟩), .slice (some ⟨w2.heap.size, 0, none⟩) 1 1] (w2.alloc (.cells #[.string (⟨#[43]⟩ ++ s)] 9)) fun e w3 => ∃ n : Int, e = .returned (.tuple #[.int .i64 n, .int .i64 0, .int .i64 0]) /\
   ∃ v' w4, (Builtin.append_ #[28, 28] 28 #[lv, .slice (some ⟨w3.heap.size, 0, none⟩) 1 1]).run Tryz.prog (w3.alloc (.cells #[.string (s)] 9)) = .ok v' w4 /\ Hid (PutI w B gb ver m lo xs now (l ++ [s]) v' w4) := by
 obtain ⟨g, hg, kg⟩ := h.kg
 obtain ⟨p1, p2, p3⟩ := putN_ok l now hs0
 have hb2 : Below wr.heap.size wr (w2.alloc (.cells #[.string (⟨#[43]⟩ ++ s)] 9)) := hb.alloc hb.size _
 have hws : w.heap.size <= wr.heap.size := h.kept.size
 have hdo : doneS (putN now l) (⟨#[43]⟩ ++ s) = putN now (l ++ [s]) := by rw [plus_done, putN_snoc]
 obtain ⟨q1, q2, q3⟩ := putN_ok (l ++ [s]) now hs0
 rw [List.length_append] at q2
 have q2 : (putN now (l ++ [s])).length <= now.length + (l.length + 1) := q2
 refine ((kg.later hb2).write1 (by rw [hg]; omega) (s := ⟨#[43]⟩ ++ s) (by omega) HF.out (by rw [hdo]; omega) (by rw [hdo]; exact q1) w2.heap.size 1 (by have := hb.size; omega) (row_cell (alloc_new w2 [.string (⟨#[43]⟩ ++ s)] _) (j := 0) rfl)).mono ?_
 rintro e w3 ⟨rfl, hk, v, hvb, kg'⟩
 refine ⟨_, rfl, ?_⟩
 have hrow : w3.ownsRow w.heap.size 9 1 lv l.length (strV l) := owns_to (owns_below h.own hb2) fun k hkk => by
  obtain ⟨a, b, -⟩ := owns_lt (owns_below h.own hb2) k hkk
  exact hk.block k a (by intro e; injection e with e; omega)
 have hs3 : w.heap.size <= w3.heap.size := Nat.le_trans (Nat.le_trans hws hb2.size) hk.size
 have hkept3 : w.grownBy w3 (some gb) := kept_then h.kept hb2 hk
 obtain ⟨v', w4, hr, ho, hgr, hv'⟩ := app_strF w3 w.heap.size lv l.length l (s) hrow hs3 (by omega)
 refine ⟨v', w4, hr, ?_, ?_, ?_⟩
 ·rw [List.length_append]; exact ho
 ·refine ⟨{ g with tv := v, ver := g.ver + 1 }, ?_, ?_⟩
  ·rw [List.length_append, hg]
   show ver + (l.length : Int) + 1 = ver + ((l.length + 1 : Nat) : Int)
   omega
  ·rw [← hdo]
   refine kg_grown kg' hgr hrow fun j hj hj2 => ?_
   have h1 := (owns_lt h.own j hj).1
   have h2 := hvb j hj2
   have h3 := hb2.size
   omega
 ·exact kept_row hkept3 hgr hrow
def putL (cs : List Int) (k : Nat) : List ByteArray := (cs.take k).map kOf
theorem putL_next {cs : List Int} {k : Nat} {c : Int} (h : cs[k]? = some c) : putL cs (k + 1) = putL cs k ++ [kOf c] := by
 unfold putL
 obtain ⟨h1, h2⟩ := List.getElem?_eq_some_iff.1 h
 rw [List.take_succ_eq_append_getElem h1, h2, List.map_append]; rfl
theorem putL_len (cs : List Int) (k : Nat) : (putL cs k).length <= k := by
 unfold putL; rw [List.length_map, List.length_take]; omega
def PutP (w : World) (B gb : Nat) (ver : Int) (m : List (Value × Value)) (lo : Nat) (now : List ByteArray) (cs : List Int) (most : Nat) (e : Ending) (w' : World) : Prop :=
 ∃ o c, e = .returned (.tuple #[.slice o (putL cs most).length c, .bool true]) /\ PutI w B gb ver m lo krules now (putL cs most) (.slice o (putL cs most).length c) w'
theorem kPut_any {w : World} {B gb : Nat} {g : Pg} {m : List (Value × Value)} {lo : Nat} {now : List ByteArray} (kg : KG w B gb g m lo krules now) (hver : g.ver <= 900000) (most : Nat) (hm : most <= 40) (hn : now.length + most <= 50) {rv : Value} {cs : List Int} (hr : IntsAt w rv cs) (hB : ∀ b off n cap, rv = .slice (some ⟨b, off, none⟩) n cap -> n ≠ 0 -> b ≠ gb) (hcs : ∀ c ∈ cs, -9223372036854775808 <= c /\ c <= 9223372036854775807) (hl : cs.length <= 9223372036854775807) :
  Calls Tryz.prog 15 #[.pointer (some ⟨gb, 0, none⟩), rv, .int .i64 (most : Nat)] w (PutP w B gb g.ver m lo now cs most) := by
 obtain ⟨rx, rc, hrv, HC⟩ : ∃ rx rc, rv = .slice rx cs.length rc /\ Hid (∀ (i : Nat) (c : Int), cs[i]? = some c -> ∃ b off, rx = some ⟨b, off, none⟩ /\ b ≠ gb /\ b < w.heap.size /\ w.cell? ⟨b, off + i, none⟩ = some (.int .i64 c)) := by
  rcases hr with ⟨⟨x, c, rfl⟩, rfl⟩ | ⟨b, off, cap, rfl, hb, hc⟩
  ·exact ⟨x, c, rfl, fun i c h => by simp at h⟩
  ·exact ⟨_, cap, rfl, fun i c h => ⟨b, off, rfl, hB b off _ cap rfl (by have := (List.getElem?_eq_some_iff.1 h).1; omega), hb, hc i c h⟩⟩
 subst hrv
 have HST : Hid (PutI w B gb g.ver m lo krules now (putL cs 0) (.slice none 0 0) w) := ⟨World.ownsRow_nil _ _ _ _, ⟨g, by simp [putL], kg⟩, ⟨rfl, rfl, rfl, Nat.le_refl _, fun _ _ _ => rfl⟩⟩
 have HSO : Hid (Sorted now) := kg.sorted
 have HV0 : Hid (0 <= g.ver) := kg.ver0
 have HGB : Hid (gb < w.heap.size) := row_lt kg.pg
 have HCS : Hid (∀ c ∈ cs, -9223372036854775808 <= c /\ c <= 9223372036854775807) := hcs
 have HVR : Hid (g.ver <= 900000) := hver
 have HFT : Hid (∀ c, faultS (ruleOfs krules) (⟨#[43]⟩ ++ kOf c) = 0 /\ (⟨#[43]⟩ ++ kOf c).size <= 100) := kOf_ok
 have HEQ : Hid (∀ k : Nat, ¬ k < cs.length -> k <= most -> putL cs k = putL cs most) := by
  intro k h1 h2
  unfold putL
  rw [List.take_of_length_le (by omega), List.take_of_length_le (by omega)]
 have HFIN : Hid (∀ (o : Option Addr) (c n : Nat) (wr : World), n = (putL cs most).length -> PutI w B gb g.ver m lo krules now (putL cs most) (.slice o n c) wr -> PutP w B gb g.ver m lo now cs most (.returned (.tuple #[.slice o n c, .bool true])) wr) := by
  rintro o c n wr rfl h
  exact ⟨o, c, rfl, h⟩
 generalize PutP w B gb g.ver m lo now cs most = P at *
 generalize g.ver = ver at *
 clear hr hB hcs kg hver
 obtain ⟨N, hN⟩ : ∃ N, cs.length = N := ⟨_, rfl⟩
 have HN : Hid (cs.length = N) := hN
 rw [hN] at hl HEQ ⊢
 clear hN
 generalize krules = xs at *
 go_enter Tryz.func15, Tryz.ntmps15
 go_wp2
 go_loopw [8, 9] (fun lv i wr => ∃ (k : Nat) (o : Option Addr) (c n : Nat), lv = .slice o n c /\ n = (putL cs k).length /\ i = .int .i64 k /\ k <= most /\ k <= N /\ PutI w B gb ver m lo xs now (putL cs k) lv wr) (fun _ i _ => most - (intOf i).toNat)
 case atStart => exact ⟨0, none, 0, 0, rfl, by simp [putL], rfl, Nat.zero_le _, Nat.zero_le _, HST.out⟩
 case round =>
  obtain ⟨k, o, c, n, rfl, hnl, rfl, hkm, hkN, hI⟩ := hrel
  clear HST
  have HNL : Hid (n = (putL cs k).length) := hnl
  have HI : Hid (PutI w B gb ver m lo xs now (putL cs k) (.slice o n c) wr) := hI
  clear hnl hI
  by_cases hlt : k < N
  ·by_cases hlm : k < most
   ·obtain ⟨x, hx⟩ : ∃ x, cs[k]? = some x := ⟨_, List.getElem?_eq_getElem (by have := HN.out; omega)⟩
    obtain ⟨b, off, hrx, hbn, hbl, hcx0⟩ := HC.out k x hx
    subst hrx
    have hcx : wr.cell? ⟨b, off + k, none⟩ = some (.int .i64 x) := (World.cell?_of_block (a := ⟨b, off + k, none⟩) (HI.out.kept.block b hbl (by intro e; injection e with e; exact hbn e))).trans hcx0
    obtain ⟨hx1, hx2⟩ := HCS.out x (List.mem_of_getElem? hx)
    have HTP : Hid (Calls Tryz.prog 39 #[.int .i64 x] wr fun e w' => e = .returned (.string (kOf x)) /\ Below wr.heap.size wr w') := kTuple_any x wr hx1 hx2
    obtain ⟨hft, hfs⟩ := HFT.out x
    have HF1 : Hid (faultS (ruleOfs xs) (⟨#[43]⟩ ++ kOf x) = 0) := hft
    clear hft
    have hpl := putL_len cs k
    have HWR : Hid (∀ w2, Below wr.heap.size wr w2 -> Calls Tryz.prog 24 #[.pointer (some ⟨gb, 0, none⟩), .slice (some ⟨w2.heap.size, 0, none⟩) 1 1] (w2.alloc (.cells #[.string (⟨#[43]⟩ ++ kOf x)] 9)) _) := fun w2 hb => HI.out.step HSO.out (by omega) HV0.out HVR.out HGB.out (kOf x) HF1 hfs hb
    have HNX : Hid (putL cs (k + 1) = putL cs k ++ [kOf x]) := putL_next hx
    have hs9 : (kOf x).size <= 99 := by
     have e : (⟨#[43]⟩ ++ kOf x : ByteArray).size = 1 + (kOf x).size := by simp; rfl
     omega
    clear hcx0 hx hfs hx1 hx2 HFT HCS HC
    generalize kOf x = s at *
    go_wp2_with (first | (go_at_call 39; refine HTP.out.mono ?_; rintro e w2 ⟨rfl, hb2⟩; have HB2 : Hid (Below wr.heap.size wr w2) := hb2; clear hb2) | (go_at_call 24; refine (HWR.out _ HB2.out).mono ?_; rintro e w3 ⟨vn, rfl, v4, w4, hr4, HI4⟩) | (at_builtin; refine wpList_app_run rfl (.tmp 41) (.tmp 43) 28 rfl _ _ _ rfl rfl hr4 ?_))
    obtain ⟨o4, c4, hv4⟩ := owns_form HI4.out.own
    subst hv4
    go_roundw
    case rel => exact ⟨k + 1, o4, c4, _, rfl, by rw [HNX.out], by go_num, by omega, by omega, by rw [HNX.out]; exact HI4.out⟩
    case measure => simp [intOf]; omega
   ·obtain rfl : k = most := by omega
    have HP : Hid (P (.returned (.tuple #[.slice o n c, .bool true])) wr) := HFIN.out o c n wr HNL.out HI.out
    clear HI HC HCS HFT
    go_wp2
    exact HP.out
  ·obtain rfl : k = N := by omega
   have HP : Hid (P (.returned (.tuple #[.slice o n c, .bool true])) wr) := by
    have e := HEQ.out k (by omega) hkm
    have h1 := HI.out
    have h2 := HNL.out
    rw [e] at h1 h2
    exact HFIN.out o c n wr h2 h1
   clear HI HC HCS HFT
   go_wp2
   exact HP.out
theorem KG.writeL {w : World} {B gb : Nat} {g : Pg} {m : List (Value × Value)} {lo : Nat} {xs now : List ByteArray} (h : KG w B gb g m lo xs now) (hv : g.ver <= 999999) {bs ys : List ByteArray} (hs : ∀ s ∈ bs, s.size <= 1000) (hbl : bs.length <= 20) (hf : batchL (ruleOfs xs) now 0 bs = .inr ys) (hl : ys.length <= 50) (hso : Sorted ys) (bb cap : Nat) (hbb : bb ≠ gb) (hc : ∀ i x, bs[i]? = some x -> w.cell? ⟨bb, 0 + i, none⟩ = some (.string x)) :
  Calls Tryz.prog 24 #[.pointer (some ⟨gb, 0, none⟩), .slice (some ⟨bb, 0, none⟩) bs.length cap] w fun e w' => e = .returned (.tuple #[.int .i64 (g.ver + 1), .int .i64 0, .int .i64 0]) /\ w.grownBy w' (some gb) /\ ∃ v, (∀ j, v.ownBlock = some j -> w.heap.size <= j) /\ KG w' B gb { g with tv := v, ver := g.ver + 1 } m lo xs ys := by
 have hnb := strT_ne h.tv h.pg (by decide)
 obtain ⟨es, cl, hm1, hm2, hm3, hm4⟩ := h.map
 have hfs : ∀ s, faultG m s = faultS (ruleOfs xs) s := fun s => fault_same h.rmap hm4 h.okx s
 have key := ghWrite_open gb g m (ruleOfs xs) now bs bb 0 cap w h.pg h.lk h.cl h.rmap.ways h.map hfs h.tv.strs h.sorted h.nl hnb hc hbb hbl (fun x hx => by have := hs x hx; omega) ⟨h.ver0, by have := h.verV; omega⟩
 refine key.mono ?_
 intro e w' hp
 rw [hf] at hp
 obtain ⟨hk, hp⟩ := hp
 dsimp only at hp
 rw [if_neg (by omega)] at hp
 obtain ⟨v, rfl, hpg, hown⟩ := hp
 have sk : SK (onlyB gb) w w' := SK.gate hk (cs := g.cells) h.pg (by decide) rfl
 refine ⟨rfl, hk, v, fun j hj => (owns_lt hown j hj).2.1, hpg, sk.mapAt h.map, sk.rmap h.rmap, h.okx, h.few, owns_strT hown, hso, hl, ?_, h.lk, h.cl, by show 0 <= g.ver + 1; have := h.ver0; omega, by show g.ver + 1 <= 1000000; omega, h.gB⟩
 exact batch_good _ _ _ _ _ h.tup hf
def kb0 : List ByteArray := [⟨#[43, 103, 114, 111, 117, 112, 58, 122, 35, 109, 101, 109, 98, 101, 114, 64, 117, 115, 101, 114, 58, 122]⟩, ⟨#[43, 100, 111, 99, 58, 122, 35, 114, 101, 97, 100, 101, 114, 64, 103, 114, 111, 117, 112, 58, 122, 35, 109, 101, 109, 98, 101, 114]⟩]
def know0 : List ByteArray := [⟨#[100, 111, 99, 58, 122, 35, 114, 101, 97, 100, 101, 114, 64, 103, 114, 111, 117, 112, 58, 122, 35, 109, 101, 109, 98, 101, 114]⟩, ⟨#[103, 114, 111, 117, 112, 58, 122, 35, 109, 101, 109, 98, 101, 114, 64, 117, 115, 101, 114, 58, 122]⟩]
def kq0 : ByteArray := ⟨#[100, 111, 99, 58, 122, 35, 114, 101, 97, 100, 101, 114, 64, 117, 115, 101, 114, 58, 122]⟩
theorem kb0_done : batchL (ruleOfs krules) [] 0 kb0 = .inr know0 := by decide +kernel
theorem know0_sorted : Sorted know0 := by unfold Sorted know0; decide +kernel
theorem kq0_x : queX kq0 = ⟨docB, zB, readerB⟩ := by decide +kernel
theorem kq0_y : queY kq0 = ⟨userB, zB, noneB⟩ := by decide +kernel
theorem kq0_ok : queOk kq0 = true /\ queC kq0 = true /\ hasR krules (queX kq0) = true := by decide +kernel
theorem know0_ts : tsOf know0 = [(⟨docB, zB, readerB⟩, ⟨groupB, zB, memberB⟩), (⟨groupB, zB, memberB⟩, ⟨userB, zB, noneB⟩)] := by decide +kernel
theorem std_this {ts : List (Nod × Nod)} {rule : Nod -> WayT} {u x : Nod} (hr : rule x = thisW) : Std ts rule u x ↔ ∃ y ∈ subsOf ts x, inU u (Std ts rule u) y := by
 have : toldW ts (inU u (Std ts rule u)) x thisW ↔ ∃ y ∈ subsOf ts x, inU u (Std ts rule u) y := by
  unfold thisW
  rw [toldX_leaf (by decide) (by decide)]
  have e : namedW ts x (.mk 0 noneB noneB []) = subsOf ts x := by simp [namedW, isLeaf, leafW]
  rw [e]
 rw [Std.iff, hr, this]
theorem kq0_std : Std (tsOf know0) (ruleN krules) ⟨userB, zB, noneB⟩ ⟨docB, zB, readerB⟩ := by
 have h1 : Std (tsOf know0) (ruleN krules) ⟨userB, zB, noneB⟩ ⟨groupB, zB, memberB⟩ := by
  rw [std_this (kr_member zB)]
  exact ⟨⟨userB, zB, noneB⟩, mem_subsOf.2 (by rw [know0_ts]; simp), by unfold inU; rw [if_pos (by decide +kernel)]⟩
 rw [Std.iff, kr_reader zB, toldW, if_pos rfl, toldO]
 left
 unfold thisW
 rw [toldX_leaf (by decide) (by decide)]
 refine ⟨⟨groupB, zB, memberB⟩, ?_, ?_⟩
 ·have e : namedW (tsOf know0) ⟨docB, zB, readerB⟩ (.mk 0 noneB noneB []) = subsOf (tsOf know0) ⟨docB, zB, readerB⟩ := by simp [namedW, isLeaf, leafW]
  rw [e]
  exact mem_subsOf.2 (by rw [know0_ts]; simp)
 ·unfold inU
  rw [if_neg (by decide +kernel)]
  exact h1
theorem kq0_check {w : World} {e : Ending} {w' : World} (h : CheckP krules know0 kq0 w e w') : e = .returned (.tuple #[.bool true, .int .i64 0]) /\ Below w.heap.size w w' := by
 obtain ⟨bo, er, rfl, hb, he, hbo⟩ := h
 obtain ⟨q1, q2, q3⟩ := kq0_ok
 have e0 : er = 0 := by
  rw [he, q1, q2, q3]; rfl
 have e1 : bo = true := hbo.2 ⟨e0, ⟨userB, zB, noneB⟩, ⟨by decide +kernel, ⟨(⟨groupB, zB, memberB⟩, ⟨userB, zB, noneB⟩), by rw [know0_ts]; simp, rfl⟩, by rw [kq0_x]; exact kq0_std⟩, by rw [kq0_y]⟩
 rw [e0, e1]
 exact ⟨rfl, hb⟩
def gN (a : Nat) : Nod := ⟨groupB, letS a, memberB⟩
def uN (b : Nat) : Nod := ⟨userB, letS b, noneB⟩
def kNode (k a : Nat) : Nod := if k <= 3 then gN a else ⟨docB, letS a, if k = 4 then parentB else if k = 5 then readerB else if k = 6 then ownerB else if k = 7 then trustedB else bothB⟩
def kSubj (k b : Nat) : Nod := if k = 0 \/ k = 1 \/ k = 6 \/ k = 8 then uN b else if k = 4 then ⟨docB, letS b, noneB⟩ else gN b
theorem gN_mod (a : Nat) : gN a = gN (a % 4) := by unfold gN; rw [← letS_mod]
theorem uN_mod (a : Nat) : uN a = uN (a % 4) := by unfold uN; rw [← letS_mod]
theorem kNode_mod (k a : Nat) : kNode k a = kNode k (a % 4) := by unfold kNode; rw [← gN_mod, ← letS_mod]
theorem kSubj_mod (k a : Nat) : kSubj k a = kSubj k (a % 4) := by unfold kSubj; rw [← gN_mod, ← uN_mod, ← letS_mod]
theorem letS_inj : ∀ a, a < 4 -> ∀ b, b < 4 -> letS a = letS b -> a = b := by decide +kernel
theorem let_name : ∀ a, a < 4 -> nameL (letS a).data.toList = true := by decide +kernel
theorem let_name' (a : Nat) : nameL (letS a).data.toList = true := by rw [letS_mod]; exact let_name _ (by omega)
theorem mk_data (b : ByteArray) : mk b.data.toList = b := by
 refine bytes_ext ?_
 simp [mk]
theorem gN_nm (a : Nat) : NmN (gN a) groupB.data.toList (letS a).data.toList (some memberB.data.toList) := by
 refine ⟨?_, by decide +kernel, let_name' a, fun r hr => by cases hr; decide +kernel⟩
 show gN a = ⟨mk groupB.data.toList, mk (letS a).data.toList, mk memberB.data.toList⟩
 rw [mk_data, mk_data, mk_data]; rfl
theorem uN_nm (a : Nat) : NmN (uN a) userB.data.toList (letS a).data.toList none := by
 refine ⟨?_, by decide +kernel, let_name' a, fun r hr => by cases hr⟩
 show uN a = ⟨mk userB.data.toList, mk (letS a).data.toList, noneB⟩
 rw [mk_data, mk_data]; rfl
theorem tpOf_tupT {x y : Nod} {k n r k2 n2 : List UInt8} {o : Option (List UInt8)} (hx : NmN x k n (some r)) (hy : NmN y k2 n2 o) : tpOf (tupT x y) = (x, y) := by
 have hd : TupD (tupT x y).data.toList k n r k2 n2 o := ⟨by rw [tupT_mk hx hy, mk_list], hx.hk, hx.hn, hx.ho r rfl, hy.hk, hy.hn, hy.ho⟩
 obtain ⟨-, h1, h2⟩ := tup_of (tupT x y) k n r k2 n2 o hd
 have a1 : (tpOf (tupT x y)).1 = x := by unfold tpOf ndOf; rw [h1, hx.e]; rfl
 have a2 : (tpOf (tupT x y)).2 = y := by unfold tpOf ndOf; rw [h2, hy.e]
 exact Prod.ext a1 a2
theorem dN_nm {r : ByteArray} (hr : nameL r.data.toList = true) (a : Nat) : NmN ⟨docB, letS a, r⟩ docB.data.toList (letS a).data.toList (some r.data.toList) := by
 refine ⟨?_, by decide +kernel, let_name' a, fun z hz => by cases hz; exact hr⟩
 show (⟨docB, letS a, r⟩ : Nod) = ⟨mk docB.data.toList, mk (letS a).data.toList, mk r.data.toList⟩
 rw [mk_data, mk_data, mk_data]
theorem dT_nm (a : Nat) : NmN ⟨docB, letS a, noneB⟩ docB.data.toList (letS a).data.toList none := by
 refine ⟨?_, by decide +kernel, let_name' a, fun z hz => by cases hz⟩
 show (⟨docB, letS a, noneB⟩ : Nod) = ⟨mk docB.data.toList, mk (letS a).data.toList, noneB⟩
 rw [mk_data, mk_data]
theorem kT_at {x y : Nod} {k n r k2 n2 : List UInt8} {o : Option (List UInt8)} (hx : NmN x k n (some r)) (hy : NmN y k2 n2 o) {s : ByteArray} (hs : s.data.toList = k ++ 58 :: (n ++ 35 :: (r ++ 64 :: (k2 ++ 58 :: (n2 ++ otail o))))) : tpOf s = (x, y) := by
 have e : s = tupT x y := by rw [tupT_mk hx hy]; exact eq_mk hs
 rw [e]; exact tpOf_tupT hx hy
theorem kT_tp (k a b : Nat) (hk : k < 9) : tpOf (kT k a b) = (kNode k a, kSubj k b) := by
 have h : k = 0 \/ k = 1 \/ k = 2 \/ k = 3 \/ k = 4 \/ k = 5 \/ k = 6 \/ k = 7 \/ k = 8 := by omega
 rcases h with rfl | rfl | rfl | rfl | rfl | rfl | rfl | rfl | rfl
 ·exact kT_at (gN_nm a) (uN_nm b) (by simp [kT, kPre, kMid, kEnd, groupB, memberB, userB, otail])
 ·exact kT_at (gN_nm a) (uN_nm b) (by simp [kT, kPre, kMid, kEnd, groupB, memberB, userB, otail])
 ·exact kT_at (gN_nm a) (gN_nm b) (by simp [kT, kPre, kMid, kEnd, groupB, memberB, otail])
 ·exact kT_at (gN_nm a) (gN_nm b) (by simp [kT, kPre, kMid, kEnd, groupB, memberB, otail])
 ·exact kT_at (dN_nm (r := parentB) (by decide +kernel) a) (dT_nm b) (by simp [kT, kPre, kMid, kEnd, docB, parentB, otail])
 ·exact kT_at (dN_nm (r := readerB) (by decide +kernel) a) (gN_nm b) (by simp [kT, kPre, kMid, kEnd, docB, readerB, groupB, memberB, otail])
 ·exact kT_at (dN_nm (r := ownerB) (by decide +kernel) a) (uN_nm b) (by simp [kT, kPre, kMid, kEnd, docB, ownerB, userB, otail])
 ·exact kT_at (dN_nm (r := trustedB) (by decide +kernel) a) (gN_nm b) (by simp [kT, kPre, kMid, kEnd, docB, trustedB, groupB, memberB, otail])
 ·exact kT_at (dN_nm (r := bothB) (by decide +kernel) a) (uN_nm b) (by simp [kT, kPre, kMid, kEnd, docB, bothB, userB, otail])
def textU (a b : Nat) : ByteArray := kT 0 a b
def textG (a b : Nat) : ByteArray := kT 2 a b
def usrS (b : Nat) : ByteArray := ⟨#[117, 115, 101, 114, 58]⟩ ++ letS b
theorem usrS_th (b : Nat) : thT (uN b) = usrS b := by
 refine bytes_ext ?_
 simp [thT, uN, userB, usrS]
structure HeldT (l now : List ByteArray) : Prop where
 ht : ∀ s ∈ now, tupOk s = true
 mem : ∀ s, s ∈ now ↔ s ∈ know0 \/ s ∈ l
 ks : ∀ s ∈ l, ∃ k a b, k < 9 /\ s = kT k a b
theorem gN_z : ∀ a, a < 4 -> gN a ≠ ⟨docB, zB, readerB⟩ /\ gN a ≠ ⟨groupB, zB, memberB⟩ := by decide +kernel
theorem gN_inj {a b : Nat} (ha : a < 4) (hb : b < 4) (h : gN a = gN b) : a = b := letS_inj a ha b hb (congrArg Nod.n h)
theorem uN_inj {a b : Nat} (ha : a < 4) (hb : b < 4) (h : uN a = uN b) : a = b := letS_inj a ha b hb (congrArg Nod.n h)
theorem kT_same (k a b : Nat) (hk : k <= 3) : kT k a b = if k <= 1 then textU a b else textG a b := by
 have : k = 0 \/ k = 1 \/ k = 2 \/ k = 3 := by omega
 rcases this with rfl | rfl | rfl | rfl <;> rfl
theorem held_subs {l now : List ByteArray} (h : HeldT l now) {a : Nat} (ha : a < 4) (y : Nod) : y ∈ subsOf (tsOf now) (gN a) ↔ (∃ b, b < 4 /\ y = uN b /\ textU a b ∈ l) \/ ∃ b, b < 4 /\ y = gN b /\ textG a b ∈ l := by
 rw [mem_subsOf]
 constructor
 ·intro hy
  obtain ⟨s, hs, e⟩ := List.mem_map.1 hy
  rcases (h.mem s).1 hs with hs | hs
  ·have h0 : tpOf s ∈ tsOf know0 := List.mem_map.2 ⟨s, hs, rfl⟩
   rw [e, know0_ts] at h0
   simp only [List.mem_cons, Prod.mk.injEq, List.not_mem_nil, or_false] at h0
   rcases h0 with ⟨e1, -⟩ | ⟨e1, -⟩
   ·exact absurd e1 (gN_z a ha).1
   ·exact absurd e1 (gN_z a ha).2
  ·obtain ⟨k, a', b', hk, rfl⟩ := h.ks s hs
   rw [kT_tp k a' b' hk] at e
   injection e with e1 e2
   have hk3 : k <= 3 := by
    refine Classical.byContradiction fun hn => ?_
    unfold kNode at e1
    rw [if_neg hn] at e1
    have := congrArg Nod.k e1
    revert this
    show docB = groupB -> False
    decide +kernel
   have e3 : gN a' = gN a := by unfold kNode at e1; rw [if_pos hk3] at e1; exact e1
   rw [gN_mod] at e3
   have e4 := gN_inj (by omega) ha e3
   rw [kT_mod, e4, kT_same k _ _ hk3] at hs
   unfold kSubj at e2
   by_cases hk1 : k <= 1
   ·rw [if_pos hk1] at hs
    left
    refine ⟨b' % 4, by omega, ?_, hs⟩
    rw [← uN_mod, ← e2, if_pos (by omega)]
   ·rw [if_neg hk1] at hs
    right
    refine ⟨b' % 4, by omega, ?_, hs⟩
    rw [← gN_mod, ← e2, if_neg (by omega), if_neg (by omega)]
 ·rintro (⟨b, hb, rfl, hl⟩ | ⟨b, hb, rfl, hl⟩)
  ·refine List.mem_map.2 ⟨textU a b, (h.mem _).2 (Or.inr hl), ?_⟩
   unfold textU
   rw [kT_tp 0 a b (by omega)]; rfl
  ·refine List.mem_map.2 ⟨textG a b, (h.mem _).2 (Or.inr hl), ?_⟩
   unfold textG
   rw [kT_tp 2 a b (by omega)]; rfl
theorem gN_node (a : Nat) : (gN a).isTh = false := by show decide (memberB = noneB) = false; decide +kernel
theorem uN_thing (a : Nat) : (uN a).isTh = true := rfl
theorem held_names {l now : List ByteArray} (h : HeldT l now) {a : Nat} (ha : a < 4) (y : Nod) : y ∈ namesN (tsOf now) (ruleN krules) (gN a) ↔ ∃ b, b < 4 /\ y = gN b /\ textG a b ∈ l := by
 unfold namesN
 have e : namedW (tsOf now) (gN a) (ruleN krules (gN a)) = subsOf (tsOf now) (gN a) := by
  rw [show ruleN krules (gN a) = thisW from kr_member (letS a)]
  unfold thisW
  simp [namedW, isLeaf, leafW]
 rw [e, List.mem_filter, held_subs h ha]
 constructor
 ·rintro ⟨⟨b, hb, rfl, -⟩ | h2, h3⟩
  ·rw [uN_thing] at h3; cases h3
  ·exact h2
 ·rintro ⟨b, hb, rfl, hl⟩
  exact ⟨Or.inr ⟨b, hb, rfl, hl⟩, by rw [gN_node]; rfl⟩
structure HeldG (l : List ByteArray) (f : Nat) (gs : List Nat) : Prop where
 nd : gs.Nodup
 lt : ∀ a ∈ gs, a < 4
 first : gs[0]? = some f
theorem held_rch {l now : List ByteArray} (h : HeldT l now) {f : Nat} {gs : List Nat} (hg : HeldG l f gs) (hr : ∀ a ∈ gs, Rch (tsOf now) (ruleN krules) (gN f) (gN a)) (hc : ∀ a ∈ gs, ∀ b, b < 4 -> textG a b ∈ l -> b ∈ gs) (y : Nod) : Rch (tsOf now) (ruleN krules) (gN f) y ↔ ∃ a ∈ gs, y = gN a := by
 constructor
 ·intro hy
  refine Rch.in (S := fun y => ∃ a ∈ gs, y = gN a) ?_ ⟨f, List.mem_of_getElem? hg.first, rfl⟩ hy
  rintro x ⟨a, ha, rfl⟩ z hz
  obtain ⟨b, hb, rfl, hl⟩ := (held_names h (hg.lt a ha) z).1 hz
  exact ⟨b, hc a ha b hb hl, rfl⟩
 ·rintro ⟨a, ha, rfl⟩; exact hr a ha
theorem held_std {l now : List ByteArray} (h : HeldT l now) {f : Nat} {gs : List Nat} (hg : HeldG l f gs) (hr : ∀ a ∈ gs, Rch (tsOf now) (ruleN krules) (gN f) (gN a)) (hc : ∀ a ∈ gs, ∀ b, b < 4 -> textG a b ∈ l -> b ∈ gs) (u : Nod) (hu : u.isTh = true) : Std (tsOf now) (ruleN krules) u (gN f) ↔ ∃ a ∈ gs, ∃ b, b < 4 /\ u = uN b /\ textU a b ∈ l := by
 constructor
 ·intro hs
  refine Std.in (S := fun y => ∃ a ∈ gs, y = gN a) (W := fun _ => ∃ a ∈ gs, ∃ b, b < 4 /\ u = uN b /\ textU a b ∈ l) ?_ ?_ ⟨f, List.mem_of_getElem? hg.first, rfl⟩ hs
  ·rintro x ⟨a, ha, rfl⟩ z hz
   obtain ⟨b, hb, rfl, hl⟩ := (held_names h (hg.lt a ha) z).1 hz
   exact ⟨b, hc a ha b hb hl, rfl⟩
  ·rintro x ⟨a, ha, rfl⟩ ht
   rw [show ruleN krules (gN a) = thisW from kr_member (letS a)] at ht
   unfold thisW at ht
   rw [toldX_leaf (by decide) (by decide)] at ht
   obtain ⟨y, hy, hi⟩ := ht
   have e : namedW (tsOf now) (gN a) (.mk 0 noneB noneB []) = subsOf (tsOf now) (gN a) := by simp [namedW, isLeaf, leafW]
   rw [e] at hy
   unfold inU at hi
   rcases (held_subs h (hg.lt a ha) y).1 hy with ⟨b, hb, rfl, hl⟩ | ⟨b, hb, rfl, -⟩
   ·rw [if_pos (uN_thing b)] at hi
    exact ⟨a, ha, b, hb, hi.symm, hl⟩
   ·rw [if_neg (by rw [gN_node]; decide)] at hi
    exact hi
 ·rintro ⟨a, ha, b, hb, rfl, hl⟩
  have h1 : Std (tsOf now) (ruleN krules) (uN b) (gN a) := by
   rw [std_this (x := gN a) (kr_member (letS a))]
   exact ⟨uN b, (held_subs h (hg.lt a ha) _).2 (Or.inl ⟨b, hb, rfl, hl⟩), by unfold inU; rw [if_pos (uN_thing b)]⟩
  have back : ∀ y, Rch (tsOf now) (ruleN krules) (gN f) y -> Std (tsOf now) (ruleN krules) (uN b) y -> Std (tsOf now) (ruleN krules) (uN b) (gN f) := by
   intro y hy
   induction hy with
   | here => exact id
   | on h1 h2 ih =>
    intro hs
    rename_i z w
    obtain ⟨c, hcg, rfl⟩ := (held_rch h hg hr hc _).1 h1
    refine ih ?_
    rw [std_this (x := gN c) (kr_member (letS c))]
    obtain ⟨b', hb', rfl, hl'⟩ := (held_names h (hg.lt c hcg) _).1 h2
    exact ⟨gN b', (held_subs h (hg.lt c hcg) _).2 (Or.inr ⟨b', hb', rfl, hl'⟩), by unfold inU; rw [if_neg (by rw [gN_node]; decide)]; exact hs⟩
  exact back _ (hr a ha) h1
structure TwoR (wP : World) (gv pv : Value) (gs ps : List ByteArray) (wr : World) : Prop where
 g : wr.ownsRow wP.heap.size 9 1 gv gs.length (strV gs)
 p : wr.ownsRow wP.heap.size 9 1 pv ps.length (strV ps)
 sep : ∀ j, gv.ownBlock = some j -> pv.ownBlock ≠ some j
 below : Below wP.heap.size wP wr
theorem TwoR.later {wP : World} {gv pv : Value} {gs ps : List ByteArray} {wr w' : World} (h : TwoR wP gv pv gs ps wr) (hb : Below wr.heap.size wr w') : TwoR wP gv pv gs ps w' :=
 ⟨owns_below h.g hb, owns_below h.p hb, h.sep, h.below.trans (hb.mono h.below.size)⟩
theorem TwoR.swap {wP : World} {gv pv : Value} {gs ps : List ByteArray} {wr : World} (h : TwoR wP gv pv gs ps wr) : TwoR wP pv gv ps gs wr := ⟨h.p, h.g, fun j h1 h2 => h.sep j h2 h1, h.below⟩
theorem TwoR.addG {wP : World} {gv pv : Value} {gs ps : List ByteArray} {wr : World} (h : TwoR wP gv pv gs ps wr) (y : ByteArray) (hl : gs.length <= 1000) :
  ∃ v' w', (Builtin.append_ #[28, 28] 28 #[gv, .slice (some ⟨wr.heap.size, 0, none⟩) 1 1]).run Tryz.prog (wr.alloc (.cells #[.string y] 9)) = .ok v' w' /\ TwoR wP v' pv (gs ++ [y]) ps w' := by
 obtain ⟨v', w', hr, ho, hg, hv⟩ := app_strF wr wP.heap.size gv gs.length gs y h.g h.below.size (by omega)
 have hml := owns_lt h.p
 refine ⟨v', w', hr, by rw [List.length_append]; exact ho, ?_, ?_, h.below.grown hg h.below.size (fun j hj => (h.g.lt j hj).1)⟩
 ·exact owns_to h.p fun k hk => hg.block k (hml k hk).1 (by intro e; exact h.sep k e.symm hk)
 ·intro j hj
  rcases hv with e | e
  ·rw [e] at hj; exact h.sep j hj
  ·rw [e] at hj
   intro hm
   have := (hml j hm).1
   injection hj with hj
   omega
theorem TwoR.addP {wP : World} {gv pv : Value} {gs ps : List ByteArray} {wr : World} (h : TwoR wP gv pv gs ps wr) (y : ByteArray) (hl : ps.length <= 1000) :
  ∃ v' w', (Builtin.append_ #[28, 28] 28 #[pv, .slice (some ⟨wr.heap.size, 0, none⟩) 1 1]).run Tryz.prog (wr.alloc (.cells #[.string y] 9)) = .ok v' w' /\ TwoR wP gv v' gs (ps ++ [y]) w' := by
 obtain ⟨v', w', hr, h2⟩ := h.swap.addG y hl
 exact ⟨v', w', hr, h2.swap⟩
def seenK (i k j b : Nat) : Prop := j < i \/ j = i /\ b < k
structure HldK (l now : List ByteArray) (f i k : Nat) (gs ps : List Nat) : Prop where
 hg : HeldG l f gs
 rch : ∀ a ∈ gs, Rch (tsOf now) (ruleN krules) (gN f) (gN a)
 closed : ∀ j a b, seenK i k j b -> gs[j]? = some a -> b < 4 -> textG a b ∈ l -> b ∈ gs
 pnd : ps.Nodup
 pin : ∀ b, b ∈ ps ↔ b < 4 /\ ∃ j a, seenK i k j b /\ gs[j]? = some a /\ textU a b ∈ l
theorem four_len {gs : List Nat} (hn : gs.Nodup) (hl : ∀ a ∈ gs, a < 4) : gs.length <= 4 := by
 have := nodup_sub_len gs (List.range 4) hn fun a ha => List.mem_range.2 (hl a ha)
 simpa using this
theorem HldK.len {l now : List ByteArray} {f i k : Nat} {gs ps : List Nat} (h : HldK l now f i k gs ps) : gs.length <= 4 /\ ps.length <= 4 :=
 ⟨four_len h.hg.nd h.hg.lt, four_len h.pnd fun b hb => ((h.pin b).1 hb).1⟩
theorem HldK.next {l now : List ByteArray} {f i : Nat} {gs ps : List Nat} (h : HldK l now f i 4 gs ps) : HldK l now f (i + 1) 0 gs ps := by
 have e : ∀ j b, b < 4 -> (seenK (i + 1) 0 j b ↔ seenK i 4 j b) := fun j b hb => by unfold seenK; omega
 refine ⟨h.hg, h.rch, fun j a b hs ha hb ht => h.closed j a b ((e j b hb).1 hs) ha hb ht, h.pnd, fun b => ?_⟩
 rw [h.pin]
 constructor
 ·rintro ⟨hb, j, a, hs, ha, ht⟩; exact ⟨hb, j, a, (e j b hb).2 hs, ha, ht⟩
 ·rintro ⟨hb, j, a, hs, ha, ht⟩; exact ⟨hb, j, a, (e j b hb).1 hs, ha, ht⟩
theorem snoc_nodup {l : List Nat} {k : Nat} (h : l.Nodup) (hk : k ∉ l) : (l ++ [k]).Nodup := by
 rw [List.nodup_append]
 exact ⟨h, by simp, fun a ha b hb => by simp at hb; rw [hb]; intro e; exact hk (e ▸ ha)⟩
theorem HldK.step {l now : List ByteArray} (ht : HeldT l now) {f i k a : Nat} {gs ps gs' ps' : List Nat} (h : HldK l now f i k gs ps) (ha : gs[i]? = some a) (hk : k < 4)
  (hps : (textU a k ∈ l /\ k ∉ ps /\ ps' = ps ++ [k]) \/ (¬ (textU a k ∈ l /\ k ∉ ps) /\ ps' = ps)) (hgs : (textG a k ∈ l /\ k ∉ gs /\ gs' = gs ++ [k]) \/ (¬ (textG a k ∈ l /\ k ∉ gs) /\ gs' = gs)) : HldK l now f i (k + 1) gs' ps' := by
 have hil := (List.getElem?_eq_some_iff.1 ha).1
 have ham := List.mem_of_getElem? ha
 have hpre : ∃ t, gs' = gs ++ t := by
  rcases hgs with ⟨-, -, e⟩ | ⟨-, e⟩
  ·exact ⟨[k], e⟩
  ·exact ⟨[], by rw [e]; simp⟩
 have hget : ∀ j b, seenK i (k + 1) j b -> gs'[j]? = gs[j]? := fun j b hs => by
  obtain ⟨t, e⟩ := hpre
  rw [e, List.getElem?_append_left (by unfold seenK at hs; omega)]
 have hsub : ∀ b ∈ gs, b ∈ gs' := fun b hb => by
  obtain ⟨t, e⟩ := hpre
  rw [e]; exact List.mem_append_left _ hb
 have hg0 : gs'[0]? = some f := by
  rw [hget 0 0 (by unfold seenK; omega)]; exact h.hg.first
 refine ⟨⟨?_, ?_, hg0⟩, ?_, ?_, ?_, ?_⟩
 ·rcases hgs with ⟨-, h2, e⟩ | ⟨-, e⟩
  ·rw [e]; exact snoc_nodup h.hg.nd h2
  ·rw [e]; exact h.hg.nd
 ·intro c hc
  rcases hgs with ⟨-, -, e⟩ | ⟨-, e⟩
  ·rw [e] at hc
   rcases List.mem_append.1 hc with hc | hc
   ·exact h.hg.lt c hc
   ·simp at hc; rw [hc]; exact hk
  ·rw [e] at hc; exact h.hg.lt c hc
 ·intro c hc
  rcases hgs with ⟨h1, -, e⟩ | ⟨-, e⟩
  ·rw [e] at hc
   rcases List.mem_append.1 hc with hc | hc
   ·exact h.rch c hc
   ·simp at hc
    rw [hc]
    exact Rch.on (h.rch a ham) ((held_names ht (h.hg.lt a ham) _).2 ⟨k, hk, rfl, h1⟩)
  ·rw [e] at hc; exact h.rch c hc
 ·intro j c b hs hc hb htx
  rw [hget j b hs] at hc
  by_cases e : j = i /\ b = k
  ·obtain ⟨e1, e2⟩ := e
   rw [e1, ha] at hc
   injection hc with hc
   rw [← hc, e2] at htx
   rw [e2]
   rcases hgs with ⟨-, -, e⟩ | ⟨h1, e⟩
   ·rw [e]; simp
   ·rw [e]
    exact Classical.byContradiction fun hn => h1 ⟨htx, hn⟩
  ·exact hsub b (h.closed j c b (by unfold seenK at hs ⊢; omega) hc hb htx)
 ·rcases hps with ⟨-, h2, e⟩ | ⟨-, e⟩
  ·rw [e]; exact snoc_nodup h.pnd h2
  ·rw [e]; exact h.pnd
 ·intro b
  have key : (b < 4 /\ ∃ j c, seenK i (k + 1) j b /\ gs'[j]? = some c /\ textU c b ∈ l) ↔ b ∈ ps \/ (b = k /\ textU a k ∈ l) := by
   rw [h.pin]
   constructor
   ·rintro ⟨hb, j, c, hs, hc, htx⟩
    rw [hget j b hs] at hc
    by_cases e : j = i /\ b = k
    ·obtain ⟨e1, e2⟩ := e
     rw [e1, ha] at hc
     injection hc with hc
     rw [← hc, e2] at htx
     exact Or.inr ⟨e2, htx⟩
    ·exact Or.inl ⟨hb, j, c, by unfold seenK at hs ⊢; omega, hc, htx⟩
   ·rintro (⟨hb, j, c, hs, hc, htx⟩ | ⟨e, htx⟩)
    ·have hs' : seenK i (k + 1) j b := by unfold seenK at hs ⊢; omega
     exact ⟨hb, j, c, hs', by rw [hget j b hs']; exact hc, htx⟩
    ·subst e
     have hs' : seenK i (b + 1) i b := by unfold seenK; omega
     exact ⟨hk, i, a, hs', by rw [hget i b hs']; exact ha, htx⟩
  rw [key]
  rcases hps with ⟨h1, h2, e⟩ | ⟨h1, e⟩
  ·rw [e, List.mem_append]
   simp only [List.mem_singleton]
   constructor
   ·rintro (hb | hb)
    ·exact Or.inl hb
    ·exact Or.inr ⟨hb, h1⟩
   ·rintro (hb | ⟨hb, -⟩)
    ·exact Or.inl hb
    ·exact Or.inr hb
  ·rw [e]
   constructor
   ·exact Or.inl
   ·rintro (hb | ⟨hb, hx⟩)
    ·exact hb
    ·rw [hb]
     exact Classical.byContradiction fun hn => h1 ⟨hx, hn⟩
theorem HldK.start {l now : List ByteArray} {f : Nat} (hf : f < 4) : HldK l now f 0 0 [f] [] := by
 refine ⟨⟨by simp, fun a ha => by simp at ha; rw [ha]; exact hf, rfl⟩, fun a ha => by simp at ha; rw [ha]; exact Rch.here, fun j a b hs => by unfold seenK at hs; omega, by simp, fun b => ?_⟩
 constructor
 ·intro h; cases h
 ·rintro ⟨-, j, a, hs, -⟩; unfold seenK at hs; omega
def WhoK (xs now : List ByteArray) (s : ByteArray) (w : World) (e : Ending) (w' : World) : Prop :=
 ∃ o n c, ∃ er : Int, e = .returned (.tuple #[.slice o n c, .bool (er == 0)]) /\ Below w.heap.size w w' /\ er = (if queOk s = false \/ queC s = true then 4 else if hasR xs (queX s) = false then 5 else 0) /\ ∃ zs : List ByteArray, n = zs.length /\ Sorted zs /\ zs.length <= 50 /\ w'.ownsRow w.heap.size 9 1 (.slice o n c) zs.length (strV zs) /\ if er = 0 then (∀ z, z ∈ zs ↔ ∃ u, InN (tsOf now) xs u (queX s) /\ thT u = z) else o = none /\ n = 0 /\ c = 0
theorem kWho_any {xs now : List ByteArray} {s : ByteArray} {w : World} {b : Nat} (HX : Hid (Calls Tryz.prog 40 #[.pointer (some ⟨b, 0, none⟩), .string s] w (ExpandP xs now s w))) :
  Calls Tryz.prog 19 #[.pointer (some ⟨b, 0, none⟩), .string s] w (WhoK xs now s w) := by
 have HX2 : Hid (Calls Tryz.prog 40 #[.pointer (some ⟨b, 0, none⟩), .string s] w fun e w' => ∃ o c, ∃ er : Int, ∃ zs : List ByteArray, e = .returned (.tuple #[.slice o zs.length c, .int .i64 er]) /\ zs.length <= 50 /\ Hid (Sorted zs) /\ Hid (StrsAt w' (.slice o zs.length c) zs) /\ Hid (∀ d, WhoK xs now s w (.returned (.tuple #[.slice o zs.length c, .bool (er == 0)])) (w'.drewN d))) := by
  refine HX.out.mono ?_
  rintro e w' ⟨o, n, c, er, rfl, hb, he, zs, rfl, hso, hzl, hown, hz⟩
  exact ⟨o, c, er, zs, rfl, hzl, hso, owns_strs hown, fun d => ⟨o, _, c, er, rfl, hb.trans ((below_draw ⟨d, rfl⟩).mono hb.size), he, zs, rfl, hso, hzl, owns_below hown (below_draw ⟨d, rfl⟩), hz⟩⟩
 clear HX
 generalize WhoK xs now s w = P at *
 go_enter Tryz.func19, Tryz.ntmps19
 go_wp2_with (go_at_call 40; refine HX2.out.mono ?_; rintro e w1 ⟨o, c, er, zs, rfl, hzl, HSO, HST, HP⟩)
 go_loopw [8] (fun i wr => ∃ k d : Nat, 1 <= k /\ (k <= zs.length \/ k = 1) /\ i = .int .i64 k /\ wr = w1.drewN d) (fun i _ => 51 - (intOf i).toNat)
 case atStart => exact ⟨1, 0, Nat.le_refl _, Or.inr rfl, rfl, rfl⟩
 case round =>
  obtain ⟨k, d, hk1, hk2, rfl, rfl⟩ := hrel
  by_cases hlt : k < zs.length
  ·obtain ⟨x, hx⟩ : ∃ x, zs[k - 1]? = some x := ⟨_, List.getElem?_eq_getElem (by omega)⟩
   obtain ⟨y, hy⟩ : ∃ y, zs[k]? = some y := ⟨_, List.getElem?_eq_getElem hlt⟩
   have hxy : ltB x y = true := sorted_lt HSO.out (by omega) hx hy
   unfold ltB at hxy
   obtain ⟨g, f, ho, hc1, hc2⟩ : ∃ g f, o = some ⟨g, f, none⟩ /\ w1.cell? ⟨g, f + (k - 1), none⟩ = some (.string x) /\ w1.cell? ⟨g, f + k, none⟩ = some (.string y) := by
    rcases HST.out with ⟨-, e⟩ | ⟨b, off, cap, e, hcc⟩
    ·rw [e] at hlt; simp at hlt
    ·injection e with e _ _
     exact ⟨b, off, e, hcc _ _ hx, hcc _ _ hy⟩
   subst ho
   have hk3 : ((k : Int) - 1) = ((k - 1 : Nat) : Int) := by omega
   have hk4 : k - 1 < zs.length := by omega
   clear hx hy
   go_wp2
   go_quiet (fail)
   go_wp2
   go_roundw
   case rel => exact ⟨k + 1, d + nq, by omega, by omega, by go_num, rfl⟩
   case measure => simp [intOf]; omega
  ·go_wp2
   exact HP.out d
def KOpenP (w : World) (e : Ending) (w' : World) : Prop :=
 ∃ gb g m lo, e = .returned (.pointer (some ⟨gb, 0, none⟩)) /\ Below w.heap.size w w' /\ g.ver = 1 /\ KG w' w.heap.size gb g m lo krules know0
theorem kopen_chain (HN : Hid NodeC) (HW : Hid TWayC) {w : World} {wk qu : Int} (h1 : 1 <= wk) (h2 : wk <= 4) (h3 : 1 <= qu) (h4 : qu <= 6) {w1 : World} (hb1 : Below w.heap.size w w1) (hrow : RowAt w1 w.heap.size krules) :
  Calls Tryz.prog 26 #[.slice (some ⟨w.heap.size, 0, none⟩) 7 7, .int .i64 wk, .int .i64 qu] w1 fun e w2 => ∃ gb, e = .returned (.tuple #[.pointer (some ⟨gb, 0, none⟩), .int .i64 0, .int .i64 0]) /\
   Hid (Calls Tryz.prog 24 #[.pointer (some ⟨gb, 0, none⟩), .slice (some ⟨w2.heap.size, 0, none⟩) 2 2] (w2.alloc (.cells (strV kb0).toArray 9)) fun e w3 => e = .returned (.tuple #[.int .i64 1, .int .i64 0, .int .i64 0]) /\
    Hid (Calls Tryz.prog 21 #[.pointer (some ⟨gb, 0, none⟩), .string kq0] w3 fun e w4 => e = .returned (.tuple #[.bool true, .int .i64 0]) /\ KOpenP w (.returned (.pointer (some ⟨gb, 0, none⟩))) w4)) := by
 have hst : StrsAt w1 (.slice (some ⟨w.heap.size, 0, none⟩) 7 7) krules := Or.inr ⟨w.heap.size, 0, 7, rfl, fun i x hx => by rw [Nat.zero_add]; exact row_cell hrow (strV_get hx)⟩
 refine (ghOpen_any _ krules wk qu w1 hst (by rw [krules_len]; unfold maxLen; omega)).mono ?_
 intro e w2 hp
 have ha : argsBad krules.length wk qu = false := by
  rw [krules_len]
  unfold argsBad
  simp only [Bool.or_eq_false_iff, decide_eq_false_iff_not]
  omega
 obtain ⟨gb, g, m, rfl, hb2, hv, kg⟩ := KG.new hp ha krules_ok (by rw [krules_len]; omega)
 refine ⟨gb, rfl, ?_⟩
 have hb2a : Below w2.heap.size w2 (w2.alloc (.cells (strV kb0).toArray 9)) := (Below.refl _ _).alloc (Nat.le_refl _) _
 have hgl := row_lt kg.pg
 refine ((kg.later hb2a).writeL (by rw [hv]; decide) (bs := kb0) (ys := know0) (by decide) (by decide) kb0_done (by decide) know0_sorted w2.heap.size 2 (by omega) (fun i x hx => by rw [Nat.zero_add]; exact row_cell (alloc_new w2 (strV kb0) _) (strV_get hx))).mono ?_
 rintro e w3 ⟨rfl, hk, v, -, kg3⟩
 refine ⟨by rw [hv]; rfl, ?_⟩
 refine (check_any HN HW (kg3.gate kq0 (by unfold maxLen; decide)) kq0 (by unfold maxLen; decide) (fun h _ => queOk_of h krules know0) (que_sizesK kq0 (by unfold maxLen; decide))).mono ?_
 intro e w4 hq
 obtain ⟨rfl, hb4⟩ := kq0_check hq
 have hb02 : Below w.heap.size w w2 := hb1.trans (hb2.mono hb1.size)
 have hb03 : Below w.heap.size w w3 := by
  have hs : w.heap.size <= w1.heap.size := hb1.size
  have h := kg.gB
  exact (hb02.trans (hb2a.mono hb02.size)).grown hk (Nat.le_trans hb02.size hb2a.size) (fun j hj => by injection hj with hj; omega)
 have kg4 := kg3.later hb4
 exact ⟨rfl, gb, _, m, _, rfl, hb03.trans (hb4.mono hb03.size), by show g.ver + 1 = 1; rw [hv]; rfl, { kg4 with gB := Nat.le_trans hb1.size kg4.gB }⟩
theorem kOpen_any (HN : Hid NodeC) (HW : Hid TWayC) (w : World) (wk qu : Int) (h1 : 1 <= wk) (h2 : wk <= 4) (h3 : 1 <= qu) (h4 : qu <= 6) :
  Calls Tryz.prog 14 #[.int .i64 wk, .int .i64 qu] w (KOpenP w) := by
 have hru := krules_any w
 have HC0 : Hid (1 <= wk /\ wk <= 4 /\ 1 <= qu /\ qu <= 6) := ⟨h1, h2, h3, h4⟩
 clear h1 h2 h3 h4
 go_enter Tryz.func14, Tryz.ntmps14
 go_wp2_with (first | (go_at_call 38; refine hru.mono ?_; rintro e w1 ⟨rfl, hrow, hb1⟩; have HO : Hid (Calls Tryz.prog 26 #[.slice (some ⟨w.heap.size, 0, none⟩) 7 7, .int .i64 wk, .int .i64 qu] w1 _) := kopen_chain HN HW HC0.out.1 HC0.out.2.1 HC0.out.2.2.1 HC0.out.2.2.2 hb1 hrow; clear hrow hb1) | (go_at_call 26; refine HO.out.mono ?_; rintro e w2 ⟨gb, rfl, HWR⟩) | (go_at_call 24; refine HWR.out.mono ?_; rintro e w3 ⟨rfl, HC⟩) | (go_at_call 21; refine HC.out.mono ?_; rintro e w4 ⟨rfl, hp⟩; have HP : Hid (KOpenP w (.returned (.pointer (some ⟨gb, 0, none⟩))) w4) := hp; clear hp))
 go_ret
 exact HP.out
def nodeT (f : Nat) : ByteArray := ⟨#[103, 114, 111, 117, 112, 58]⟩ ++ letS f ++ ⟨#[35, 109, 101, 109, 98, 101, 114]⟩
theorem nodeT_que (f : Nat) : queOk (nodeT f) = true /\ queC (nodeT f) = false /\ queX (nodeT f) = gN f /\ hasR krules (queX (nodeT f)) = true /\ (nodeT f).size <= maxLen := by
 have h := gN_nm f
 obtain ⟨h1, h2, h3, -⟩ := que_no (s := nodeT f) h.hk h.hn (h.ho _ rfl) (by simp [nodeT, groupB, memberB])
 have hx : queX (nodeT f) = gN f := by rw [h3, h.e]; rfl
 refine ⟨h1, h2, hx, ?_, ?_⟩
 ·rw [hx]
  have e : hasR krules (gN f) = hasR krules (gN 0) := rfl
  rw [e]; decide +kernel
 ·unfold maxLen
  have : (nodeT f).size = 6 + 1 + 7 := by simp [nodeT, letS]; rfl
  omega
theorem held_t {w : World} {B gb : Nat} {g : Pg} {m : List (Value × Value)} {lo : Nat} {cs : List Int} {n : Nat} (h : KG w B gb g m lo krules (putN know0 (putL cs n))) : HeldT (putL cs n) (putN know0 (putL cs n)) := by
 refine ⟨h.doc.ht, (putN_ok _ _ know0_sorted).2.2, fun s hs => ?_⟩
 obtain ⟨c, -, rfl⟩ := List.mem_map.1 hs
 exact ⟨_, _, _, by omega, rfl⟩
theorem usrS_inj {a b : Nat} (ha : a < 4) (hb : b < 4) (h : usrS a = usrS b) : a = b := by
 have e := congrArg (fun s : ByteArray => s.data.toList) h
 simp [usrS] at e
 exact letS_inj a ha b hb (ByteArray.ext e)
theorem map_nodup {α β : Type} {f : α -> β} : ∀ {l : List α}, l.Nodup -> (∀ a ∈ l, ∀ b ∈ l, f a = f b -> a = b) -> (l.map f).Nodup := by
 intro l
 induction l with
 | nil => intro _ _; simp
 | cons a l ih =>
  intro h hi
  rw [List.nodup_cons] at h
  rw [List.map_cons, List.nodup_cons]
  refine ⟨fun hm => ?_, ih h.2 fun x hx y hy => hi x (by simp [hx]) y (by simp [hy])⟩
  obtain ⟨b, hb, e⟩ := List.mem_map.1 hm
  exact h.1 (hi b (by simp [hb]) a (by simp) e ▸ hb)
theorem held_who {l now : List ByteArray} (ht : HeldT l now) {f : Nat} {gs ps : List Nat} (h : HldK l now f gs.length 0 gs ps) {zs : List ByteArray} (hs : Sorted zs) (hz : ∀ z, z ∈ zs ↔ ∃ u, InN (tsOf now) krules u (gN f) /\ thT u = z) : zs.length = ps.length /\ ∀ z ∈ zs, hasL (ps.map usrS) z = true := by
 have hc : ∀ a ∈ gs, ∀ b, b < 4 -> textG a b ∈ l -> b ∈ gs := fun a ha b hb hx => by
  obtain ⟨j, hj⟩ := List.mem_iff_getElem?.1 ha
  exact h.closed j a b (by unfold seenK; have := (List.getElem?_eq_some_iff.1 hj).1; omega) hj hb hx
 have hp : ∀ b, b ∈ ps ↔ b < 4 /\ ∃ a ∈ gs, textU a b ∈ l := fun b => by
  rw [h.pin]
  constructor
  ·rintro ⟨hb, j, a, -, ha, hx⟩; exact ⟨hb, a, List.mem_of_getElem? ha, hx⟩
  ·rintro ⟨hb, a, ha, hx⟩
   obtain ⟨j, hj⟩ := List.mem_iff_getElem?.1 ha
   exact ⟨hb, j, a, by unfold seenK; have := (List.getElem?_eq_some_iff.1 hj).1; omega, hj, hx⟩
 have key : ∀ z, z ∈ zs ↔ z ∈ ps.map usrS := fun z => by
  rw [hz, List.mem_map]
  constructor
  ·rintro ⟨u, ⟨hu, -, hst⟩, rfl⟩
   obtain ⟨a, ha, b, hb, rfl, hx⟩ := (held_std ht h.hg h.rch hc u hu).1 hst
   exact ⟨b, (hp b).2 ⟨hb, a, ha, hx⟩, (usrS_th b).symm⟩
  ·rintro ⟨b, hb, rfl⟩
   obtain ⟨hb4, a, ha, hx⟩ := (hp b).1 hb
   refine ⟨uN b, ⟨uN_thing b, ?_, (held_std ht h.hg h.rch hc (uN b) (uN_thing b)).2 ⟨a, ha, b, hb4, rfl, hx⟩⟩, usrS_th b⟩
   exact ⟨(gN a, uN b), mem_subsOf.1 ((held_subs ht (h.hg.lt a ha) _).2 (Or.inl ⟨b, hb4, rfl, hx⟩)), rfl⟩
 have hnd : (ps.map usrS).Nodup := map_nodup h.pnd fun a ha b hb e => usrS_inj ((hp a).1 ha).1 ((hp b).1 hb).1 e
 constructor
 ·have h1 := nodup_sub_len zs (ps.map usrS) (sorted_nodup hs) fun z hz => (key z).1 hz
  have h2 := nodup_sub_len (ps.map usrS) zs hnd fun z hz => (key z).2 hz
  rw [List.length_map] at h1 h2
  omega
 ·intro z hz
  exact List.any_eq_true.2 ⟨z, (key z).1 hz, by simp⟩
theorem held_cost {l now : List ByteArray} (ht : HeldT l now) {f : Nat} {gs ps : List Nat} (h : HldK l now f gs.length 0 gs ps) {met : List Nod} (hn : met.Nodup) (hm : ∀ y, y ∈ met ↔ Rch (tsOf now) (ruleN krules) (gN f) y) : met.length = gs.length := by
 have hc : ∀ a ∈ gs, ∀ b, b < 4 -> textG a b ∈ l -> b ∈ gs := fun a ha b hb hx => by
  obtain ⟨j, hj⟩ := List.mem_iff_getElem?.1 ha
  exact h.closed j a b (by unfold seenK; have := (List.getElem?_eq_some_iff.1 hj).1; omega) hj hb hx
 have key : ∀ y, y ∈ met ↔ y ∈ gs.map gN := fun y => by
  rw [hm, held_rch ht h.hg h.rch hc, List.mem_map]
  constructor
  ·rintro ⟨a, ha, rfl⟩; exact ⟨a, ha, rfl⟩
  ·rintro ⟨a, ha, rfl⟩; exact ⟨a, ha, rfl⟩
 have hnd : (gs.map gN).Nodup := map_nodup h.hg.nd fun a ha b hb e => gN_inj (h.hg.lt a ha) (h.hg.lt b hb) e
 have h1 := nodup_sub_len met (gs.map gN) hn fun z hz => (key z).1 hz
 have h2 := nodup_sub_len (gs.map gN) met hnd fun z hz => (key z).2 hz
 rw [List.length_map] at h1 h2
 omega
theorem held_ask_who (HN : Hid NodeC) (HW : Hid TWayC) {w : World} {B gb : Nat} {g : Pg} {m : List (Value × Value)} {lo : Nat} {now : List ByteArray} (kg : KG w B gb g m lo krules now) (f : Nat) :
  Calls Tryz.prog 19 #[.pointer (some ⟨gb, 0, none⟩), .string (nodeT f)] w fun e w' => ∃ o c zs, e = .returned (.tuple #[.slice o zs.length c, .bool true]) /\ Below w.heap.size w w' /\ Sorted zs /\ zs.length <= 50 /\ StrsAt w' (.slice o zs.length c) zs /\ ∀ z, z ∈ zs ↔ ∃ u, InN (tsOf now) krules u (gN f) /\ thT u = z := by
 obtain ⟨q1, q2, q3, q4, q5⟩ := nodeT_que f
 refine (kWho_any (expand_any HN HW (kg.gate (nodeT f) q5) (nodeT f) q5 (fun h _ => queOk_of h krules now) (que_sizesK (nodeT f) q5))).mono ?_
 rintro e w' ⟨o, n, c, er, rfl, hb, he, zs, rfl, hso, hzl, hown, hz⟩
 have e0 : er = 0 := by rw [he, q1, q2, q4]; rfl
 subst e0
 rw [if_pos rfl, q3] at hz
 exact ⟨o, c, zs, rfl, hb, hso, hzl, owns_strs hown, hz⟩
theorem costP_of {xs now : List ByteArray} {s : ByteArray} {w : World} {e : Ending} {w' : World} (h : CostP xs now s w e w') (hq : queOk s = true) (hr : hasR xs (queX s) = true) : ∃ met : List Nod, e = .returned (.tuple #[.int .i64 (met.length : Nat), .int .i64 0]) /\ Below w.heap.size w w' /\ met.Nodup /\ ∀ y, y ∈ met ↔ Rch (tsOf now) (ruleN xs) (queX s) y := by
 have he : askE xs s = 0 := by unfold askE; rw [hq, hr]; rfl
 unfold CostP at h
 generalize askE xs s = er at *
 subst he
 obtain ⟨k, h1, h2, h3⟩ := h
 rw [if_pos rfl] at h3
 obtain ⟨met, rfl, h4, h5, -⟩ := h3
 exact ⟨met, h1, h2, h4, h5⟩
theorem held_ask_cost (HN : Hid NodeC) (HW : Hid TWayC) {w : World} {B gb : Nat} {g : Pg} {m : List (Value × Value)} {lo : Nat} {now : List ByteArray} (kg : KG w B gb g m lo krules now) (f : Nat) :
  Calls Tryz.prog 20 #[.pointer (some ⟨gb, 0, none⟩), .string (nodeT f)] w fun e w' => ∃ met : List Nod, e = .returned (.tuple #[.int .i64 (met.length : Nat), .int .i64 0]) /\ Below w.heap.size w w' /\ met.Nodup /\ ∀ y, y ∈ met ↔ Rch (tsOf now) (ruleN krules) (gN f) y := by
 obtain ⟨q1, q2, q3, q4, q5⟩ := nodeT_que f
 refine (cost_any HN HW (kg.gate (nodeT f) q5) (nodeT f) q5 (fun h _ => queOk_of h krules now) (que_sizesK (nodeT f) q5)).mono ?_
 intro e w' h
 have := costP_of h q1 q4
 rw [q3] at this
 exact this
theorem hasL_iff {l : List ByteArray} {s : ByteArray} : hasL l s = true ↔ s ∈ l := by
 unfold hasL
 rw [List.any_eq_true]
 constructor
 ·rintro ⟨x, hx, e⟩
  rw [byte_eq, decide_eq_true_iff] at e
  rw [← e]; exact hx
 ·intro h
  exact ⟨s, h, by simp⟩
theorem hasP_iff {ps : List Nat} (hp : ∀ b ∈ ps, b < 4) {k : Nat} (hk : k < 4) : hasL (ps.map usrS) (usrS k) = true ↔ k ∈ ps := by
 rw [hasL_iff, List.mem_map]
 constructor
 ·rintro ⟨b, hb, e⟩; rw [← usrS_inj (hp b hb) hk e]; exact hb
 ·intro h; exact ⟨k, h, rfl⟩
theorem hasG_iff {gs : List Nat} (hp : ∀ b ∈ gs, b < 4) {k : Nat} (hk : k < 4) : hasL (gs.map letS) (letS k) = true ↔ k ∈ gs := by
 rw [hasL_iff, List.mem_map]
 constructor
 ·rintro ⟨b, hb, e⟩; rw [← letS_inj b (hp b hb) k hk e]; exact hb
 ·intro h; exact ⟨k, h, rfl⟩
structure RndG (gg gi cg : Nat) (a k : Nat) (gs : List Nat) (w2 : World) : Prop where
 c1 : w2.cell? ⟨gg, gi, none⟩ = some (.string (letS a))
 hg : Calls Tryz.prog 18 #[.slice (some ⟨gg, 0, none⟩) gs.length cg, .string (letS k)] w2 fun e w' => e = .returned (.bool (hasL (gs.map letS) (letS k))) /\ w' = w2
theorem rndG_of {wP : World} {gg cg : Nat} {pv : Value} {gs : List Nat} {ps' : List ByteArray} {w2 : World} (h : TwoR wP (.slice (some ⟨gg, 0, none⟩) gs.length cg) pv (gs.map letS) ps' w2) (hl : gs.length <= 4) {gi a k : Nat} (ha : gs[gi]? = some a) : RndG gg gi cg a k gs w2 := by
 have hg := h.g
 rw [List.length_map] at hg
 have hil := (List.getElem?_eq_some_iff.1 ha).1
 obtain ⟨g', c', e, hc⟩ := owns_cell hg (by omega)
 injection e with e _ _
 injection e with e
 injection e with e
 subst e
 refine ⟨hc gi _ (strV_get (by rw [List.getElem?_map, ha]; rfl)), ?_⟩
 exact kHas_any _ (gs.map letS) (letS k) w2 (owns_strs (by rw [List.length_map]; exact hg)) (by rw [List.length_map]; unfold maxLen; omega)
theorem hasPpl {wP : World} {gv : Value} {op : Option Addr} {cp : Nat} {gs' : List ByteArray} {ps : List Nat} {w2 : World} (h : TwoR wP gv (.slice op ps.length cp) gs' (ps.map usrS) w2) (hl : ps.length <= 4) (k : Nat) :
  Calls Tryz.prog 18 #[.slice op ps.length cp, .string (usrS k)] w2 fun e w' => e = .returned (.bool (hasL (ps.map usrS) (usrS k))) /\ w' = w2 := by
 have hp := h.p
 rw [List.length_map] at hp
 exact kHas_any _ (ps.map usrS) (usrS k) w2 (owns_strs (by rw [List.length_map]; exact hp)) (by rw [List.length_map]; unfold maxLen; omega)
theorem textU_eq (a k : Nat) : (⟨#[103, 114, 111, 117, 112, 58]⟩ ++ letS a ++ ⟨#[35, 109, 101, 109, 98, 101, 114, 64, 117, 115, 101, 114, 58]⟩ ++ letS k : ByteArray) = textU a k := (ByteArray.append_empty ..).symm
theorem textG_eq (a k : Nat) : (⟨#[103, 114, 111, 117, 112, 58]⟩ ++ letS a ++ ⟨#[35, 109, 101, 109, 98, 101, 114, 64, 103, 114, 111, 117, 112, 58]⟩ ++ letS k ++ ⟨#[35, 109, 101, 109, 98, 101, 114]⟩ : ByteArray) = textG a k := rfl
theorem TwoR.addPk {wP : World} {gv pv : Value} {gs' : List ByteArray} {ps : List Nat} {wr : World} (h : TwoR wP gv pv gs' (ps.map usrS) wr) (k : Nat) (hl : ps.length <= 4) :
  ∃ o c w', (Builtin.append_ #[28, 28] 28 #[pv, .slice (some ⟨wr.heap.size, 0, none⟩) 1 1]).run Tryz.prog (wr.alloc (.cells #[.string (⟨#[117, 115, 101, 114, 58]⟩ ++ letS k)] 9)) = .ok (.slice o (ps ++ [k]).length c) w' /\ TwoR wP gv (.slice o (ps ++ [k]).length c) gs' ((ps ++ [k]).map usrS) w' := by
 obtain ⟨v', w', hr, h2⟩ := h.addP (usrS k) (by rw [List.length_map]; omega)
 have e : ps.map usrS ++ [usrS k] = (ps ++ [k]).map usrS := by simp
 rw [e] at h2
 have h3 := h2.p
 obtain ⟨o, c, rfl⟩ := owns_form h3
 rw [List.length_map] at h2 hr
 exact ⟨o, c, w', hr, h2⟩
theorem TwoR.addGk {wP : World} {gv pv : Value} {ps' : List ByteArray} {gs : List Nat} {wr : World} (h : TwoR wP gv pv (gs.map letS) ps' wr) (k : Nat) (hl : gs.length <= 4) :
  ∃ o c w', (Builtin.append_ #[28, 28] 28 #[gv, .slice (some ⟨wr.heap.size, 0, none⟩) 1 1]).run Tryz.prog (wr.alloc (.cells #[.string (letS k)] 9)) = .ok (.slice o (gs ++ [k]).length c) w' /\ TwoR wP (.slice o (gs ++ [k]).length c) pv ((gs ++ [k]).map letS) ps' w' := by
 obtain ⟨v', w', hr, h2⟩ := h.addG (letS k) (by rw [List.length_map]; omega)
 have e : gs.map letS ++ [letS k] = (gs ++ [k]).map letS := by simp
 rw [e] at h2
 have h3 := h2.g
 obtain ⟨o, c, rfl⟩ := owns_form h3
 rw [List.length_map] at h2 hr
 exact ⟨o, c, w', hr, h2⟩
def HeldP (w : World) (gb : Nat) (l : List ByteArray) (lv : Value) (wP : World) : Prop :=
 (∃ g m lo, KG wP w.heap.size gb g m lo krules (putN know0 l)) /\ StrsAt wP lv l /\ Below w.heap.size w wP
theorem held_put {w : World} {rv : Value} {cs : List Int} (hr : IntsAt w rv cs) (hcs : ∀ c ∈ cs, -9223372036854775808 <= c /\ c <= 9223372036854775807) (hl : cs.length <= 9223372036854775807) {gb : Nat} {g : Pg} {m : List (Value × Value)} {lo : Nat} {w1 : World} (hb : Below w.heap.size w w1) (hv : g.ver = 1) (kg : KG w1 w.heap.size gb g m lo krules know0) (most : Nat) (hm : most <= 40) :
  Calls Tryz.prog 15 #[.pointer (some ⟨gb, 0, none⟩), rv, .int .i64 (most : Nat)] w1 fun e wP => ∃ o c, e = .returned (.tuple #[.slice o (putL cs most).length c, .bool true]) /\ HeldP w gb (putL cs most) (.slice o (putL cs most).length c) wP := by
 have hr1 : IntsAt w1 rv cs := by
  rcases hr with h | ⟨b, off, cap, rfl, hbl, hc⟩
  ·exact Or.inl h
  ·exact Or.inr ⟨b, off, cap, rfl, Nat.lt_of_lt_of_le hbl hb.size, fun i c h => (hb.cell (p := ⟨b, off + i, none⟩) hbl).trans (hc i c h)⟩
 have hB : ∀ b off n cap, rv = .slice (some ⟨b, off, none⟩) n cap -> n ≠ 0 -> b ≠ gb := by
  intro b off n cap e hn
  rcases hr with ⟨⟨x, c, e2⟩, -⟩ | ⟨b', off', cap', e2, hbl, -⟩
  ·rw [e2] at e; injection e with _ e _; omega
  ·rw [e2] at e
   injection e with e _ _
   injection e with e
   injection e with e
   have := kg.gB
   omega
 refine (kPut_any kg (by rw [hv]; decide) most hm (by show 2 + most <= 50; omega) hr1 hB hcs hl).mono ?_
 rintro e wP ⟨o, c, rfl, hI⟩
 refine ⟨o, c, rfl, ?_, owns_strs hI.own, ?_⟩
 ·obtain ⟨g', -, kg'⟩ := hI.kg
  exact ⟨g', m, lo, kg'⟩
 ·exact hb.grown hI.kept hb.size (fun j hj => by injection hj with hj; rw [← hj]; exact kg.gB)
end Go.Proofs.YtalmoiogbdahcaaGreat
