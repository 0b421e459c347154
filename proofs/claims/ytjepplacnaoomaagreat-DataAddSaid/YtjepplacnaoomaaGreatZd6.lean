import Derived.Test.YtjepplacnaoomaaGreatZd5
import Derived.WalkKit
import Derived.Below
import Derived.ProofKit
import Derived.Deep.QuietTactic
import Derived.BigQuiet
import Derived.StillTailTactics
import Derived.Deep.Cut
import Derived.IntWalk
import Derived.Deep.RegionHeld3
import Derived.Lib.Hide
namespace Go.Proofs.YtjepplacnaoomaaGreat.Co.S
open Go Go.RowKit Go.Proofs Go.Proofs.YtjepplacnaoomaaGreat Go.Proofs.YtjepplacnaoomaaGreat.Co
variable {M : Nat}
def Tr (W : World) (B : Nat) : T (K M) Int→Option Addr→Prop
 | .nil,p=>p=none
 | .nd k v l r,p=>∃ (b : Nat) (lp rp : Option Addr),p=some ⟨b,0,none⟩∧B≤b∧W.heap[b]?=some (.cells #[(Value.string (k).1),(Value.int .i64 (v)),(Value.int .i64 (((l.size+1+r.size : Nat) : Int))),.pointer lp,.pointer rp] 203)∧Tr W B l lp∧Tr W B r rp
theorem lt_of_heap {W : World} {b : Nat} {o : Obj} (h : W.heap[b]?=some o) : b<W.heap.size:=(Array.getElem?_eq_some_iff.1 h).1
theorem Tr.of {W W' : World} {B : Nat} (hb : ∀ b,B≤b→b<W.heap.size→W'.heap[b]?=W.heap[b]?) : ∀ {t : T (K M) Int} {p : Option Addr},Tr W B t p→Tr W' B t p
 | .nil,_,h=>h
 | .nd _ _ _ _,_,⟨b,lp,rp,h1,h2,h3,h4,h5⟩=>⟨b,lp,rp,h1,h2,(hb b h2 (lt_of_heap h3)).trans h3,Tr.of hb h4,Tr.of hb h5⟩
theorem Tr.later {W W' : World} {B : Nat} {t : T (K M) Int} {p : Option Addr} (h : Tr W B t p) (hb : Below W.heap.size W W') : Tr W' B t p:=Tr.of (fun b _ h=>hb.block b h) h
theorem Tr.drewN {W : World} {B : Nat} {t : T (K M) Int} {p : Option Addr} (h : Tr W B t p) (q : Nat) : Tr (W.drewN q) B t p:=Tr.of (W:=W) (W':=W.drewN q) (fun _ _ _=>rfl) h
theorem Tr.drew {W : World} {B : Nat} {t : T (K M) Int} {p : Option Addr} (h : Tr W B t p) : Tr W.drew B t p:=Tr.of (W:=W) (W':=W.drew) (fun _ _ _=>rfl) h
theorem nd_cell {W : World} {b : Nat} {cs : Array Value} {t : TypeId} (h : W.heap[b]?=some (.cells cs t)) (i : Nat) : W.cell? ⟨b,i,none⟩=cs[i]?:=by simp [World.cell?,h]
structure Nd (W : World) (b : Nat) (k : K M) (v : Int) (n : Int) (lp rp : Option Addr) : Prop where
 c0 : W.cell? ⟨b,0,none⟩=some (Value.string (k).1)
 c1 : W.cell? ⟨b,1,none⟩=some (Value.int .i64 (v))
 c2 : W.cell? ⟨b,2,none⟩=some (Value.int .i64 (n))
 c3 : W.cell? ⟨b,3,none⟩=some (.pointer lp)
 c4 : W.cell? ⟨b,4,none⟩=some (.pointer rp)
theorem nd_of {W : World} {b : Nat} {k : K M} {v : Int} {n : Int} {lp rp : Option Addr} {t : TypeId} (h : W.heap[b]?=some (.cells #[(Value.string (k).1),(Value.int .i64 (v)),(Value.int .i64 (n)),.pointer lp,.pointer rp] t)) : Nd W b k v n lp rp :=
 ⟨nd_cell h 0,nd_cell h 1,nd_cell h 2,nd_cell h 3,nd_cell h 4⟩
theorem Nd.lt {W : World} {b : Nat} {k : K M} {v : Int} {n : Int} {lp rp : Option Addr} (h : Nd W b k v n lp rp) : b<W.heap.size:=World.block_lt_of_cell? W ⟨b,0,none⟩ h.c0
theorem Nd.of {W W' : World} {b : Nat} {k : K M} {v : Int} {n : Int} {lp rp : Option Addr} (h : Nd W b k v n lp rp) (hb : W'.heap[b]?=W.heap[b]?) : Nd W' b k v n lp rp :=
 ⟨(World.cell?_of_block (w:=W) hb).trans h.c0,(World.cell?_of_block (w:=W) hb).trans h.c1,(World.cell?_of_block (w:=W) hb).trans h.c2,(World.cell?_of_block (w:=W) hb).trans h.c3,(World.cell?_of_block (w:=W) hb).trans h.c4⟩
theorem Nd.later {W W' : World} {b : Nat} {k : K M} {v : Int} {n : Int} {lp rp : Option Addr} (h : Nd W b k v n lp rp) (hb : Below W.heap.size W W') : Nd W' b k v n lp rp:=h.of (hb.block b h.lt)
theorem below_on {W A B : World} (h : Below W.heap.size W A) (k : Below A.heap.size A B) : Below W.heap.size W B:=h.trans (k.mono h.size)
theorem below_alloc (W : World) (o : Obj) : Below W.heap.size W (W.alloc o):=(Below.refl _ W).alloc (Nat.le_refl _) o
theorem below_drewN (W : World) (q : Nat) : Below W.heap.size W (W.drewN q):=⟨rfl,rfl,rfl,Nat.le_refl _,fun _ _=>rfl⟩
theorem count_any (t : T (K M) Int) (p : Option Addr) (B : Nat) (W : World) (h : Tr W B t p) : Calls Tryz.prog 171 #[.pointer p] W fun e w'=>e=.returned (Value.int .i64 ((t.size : Int)))∧w'=W:=by
 cases t with
 | nil =>
  obtain rfl : p=none:=h
  go_enter Tryz.func171,Tryz.ntmps171
  go_wp2
  go_ret
  exact ⟨rfl,rfl⟩
 | nd k v l r =>
  obtain ⟨b,lv,rv,rfl,_,hh,_,_⟩:=h
  have hc:=(nd_of hh).c2
  show Calls Tryz.prog 171 _ W fun e w'=>e=.returned (Value.int .i64 (((l.size+1+r.size : Nat) : Int)))∧w'=W
  generalize l.size+1+r.size=n at hc
  go_enter Tryz.func171,Tryz.ntmps171
  go_wp2
  go_ret
  exact ⟨rfl,rfl⟩
theorem weight_any (t : T (K M) Int) (p : Option Addr) (B : Nat) (hs : t.size≤1000000) (W : World) (h : Tr W B t p) : Calls Tryz.prog 195 #[.pointer p] W fun e w'=>e=.returned (Value.int .i64 (((t.size+1 : Nat) : Int)))∧w'=W:=by
 have hc:=count_any t p B W h
 generalize t.size=n at hs hc
 go_enter Tryz.func195,Tryz.ntmps195
 go_wp2_with (go_at_call 171; refine hc.mono ?_; rintro e w1 ⟨rfl,rfl⟩)
 go_ret
 exact ⟨by simp,rfl⟩
def Makes (W : World) (B : Nat) (t : T (K M) Int) (e : Ending) (W' : World) : Prop:=∃ p,e=.returned (.pointer p)∧Tr W' B t p∧Below W.heap.size W W'
theorem tr_new (W : World) (B : Nat) (hB : B≤W.heap.size) (k : K M) (v : Int) (l r : T (K M) Int) (n : Int) (hn : n=((l.size+1+r.size : Nat) : Int)) (lp rp : Option Addr) (h1 : Tr W B l lp) (h2 : Tr W B r rp) :
  Tr (W.alloc (.cells #[(Value.string (k).1),(Value.int .i64 (v)),(Value.int .i64 (n)),.pointer lp,.pointer rp] 203)) B (.nd k v l r) (some ⟨W.heap.size,0,none⟩) :=
 ⟨W.heap.size,lp,rp,rfl,hB,by rw [hn]; exact heap_alloc_new W _,h1.later (below_alloc W _),h2.later (below_alloc W _)⟩
set_option maxHeartbeats 1000000 in
theorem beside_any (b : Nat) (k : K M) (v : Int) (n : Int) (xl xr : Option Addr) (l r : T (K M) Int) (pl pr : Option Addr) (B : Nat) (hl : l.size≤1000000) (hr : r.size≤1000000) (W : World) (hB : B≤W.heap.size) (hb : Nd W b k v n xl xr)
  (h1 : Tr W B l pl) (h2 : Tr W B r pr) : Calls Tryz.prog 198 #[(Value.pointer (some ⟨b,0,none⟩)),.pointer pl,.pointer pr] W (Makes W B (.nd k v l r)):=by
 have c1:=count_any l pl B W.drew h1.drew
 have c2:=count_any r pr B W.drew h2.drew
 have HB:=Lib.hid (And.intro hB (And.intro h1 h2))
 have ck : ∀ o,(W.alloc o).cell? ⟨b,0,none⟩=some (Value.string (k).1)∧(W.alloc o).cell? ⟨b,1,none⟩=some (Value.int .i64 (v)):=fun o=>⟨(hb.later (below_alloc W o)).c0,(hb.later (below_alloc W o)).c1⟩
 obtain ⟨c0',c1',_,_,_⟩:=hb
 obtain ⟨nl,hnl⟩ : ∃ nl,l.size=nl:=⟨_,rfl⟩
 obtain ⟨nr,hnr⟩ : ∃ nr,r.size=nr:=⟨_,rfl⟩
 rw [hnl] at c1 hl
 rw [hnr] at c2 hr
 have HN:=Lib.hid (And.intro hnl hnr)
 clear hnl hnr hB h1 h2
 go_enter Tryz.func198,Tryz.ntmps198
 go_wp2_with fail
 go_region_held3 (fun w=>w.cell? ⟨b,0,none⟩=some (Value.string (k).1)∧w.cell? ⟨b,1,none⟩=some (Value.int .i64 (v))) (first | exact ⟨c0',c1'⟩ | exact ck _) (first
  | (go_at_call 171; (with_reducible refine c1.mono ?_); rintro e w1 ⟨rfl,rfl⟩)
  | (go_at_call 171; (with_reducible refine c2.mono ?_); rintro e w1 ⟨rfl,rfl⟩))
 go_wp2_with fail
 go_ret
 exact ⟨_,rfl,(tr_new W B HB.out.1 k v l r _ (by rw [Go.IntWalk.i64_left,Go.IntWalk.i64_left,Go.IntWalk.wrap64_in ((nl : Int)+1) (by omega),Go.IntWalk.wrap64_in ((nl : Int)+1+nr) (by omega),HN.out.1,HN.out.2]; omega) pl pr HB.out.2.1 HB.out.2.2).drew,(below_alloc W _).drew⟩
variable {M : Nat}
def MakesL (W : World) (B : Nat) (L : List (K M×Int)) (e : Ending) (W' : World) : Prop:=∃ t p,e=.returned (.pointer p)∧Tr W' B t p∧t.toL=L∧Below W.heap.size W W'
theorem size_of {t : T (K M) Int} {L : List (K M×Int)} (h : t.toL=L) : t.size=L.length:=by rw [← h,T.len]
set_option maxRecDepth 100000 in
set_option maxHeartbeats 1000000 in
theorem tL_any (b : Nat) (k : K M) (v : Int) (n : Int) (xl xr : Option Addr) (l r : T (K M) Int) (pl pr : Option Addr) (B : Nat) (hr0 : r≠.nil) (hs : l.size+1+r.size≤1000000) (W : World) (hB : B≤W.heap.size) (hb : Nd W b k v n xl xr)
  (h1 : Tr W B l pl) (h2 : Tr W B r pr) : Calls Tryz.prog 196 #[(Value.pointer (some ⟨b,0,none⟩)),.pointer pl,.pointer pr] W (MakesL W B (l.toL ++ (k,v) :: r.toL)):=by
 cases r with
 | nil=>exact absurd rfl hr0
 | nd k2 v2 il ol =>
  obtain ⟨b2,ip,op,rfl,hb2,hh2,hi,ho⟩:=h2
  have hn2:=nd_of hh2
  have hs' : l.size+1+(il.size+1+ol.size)≤1000000:=hs
  have w1:=fun q=>weight_any il ip B (by omega) (W.drewN q) (hi.drewN q)
  have w2:=fun q=>weight_any ol op B (by omega) (W.drewN q) (ho.drewN q)
  have HW:=Lib.hid (And.intro hb (And.intro h1 (And.intro hn2 (And.intro hi (And.intro ho hB)))))
  clear hb h1 hi ho hB hh2
  obtain ⟨_,_,_,c3,c4⟩:=hn2
  go_enter Tryz.func196,Tryz.ntmps196
  go_wp2_with fail
  go_quiet (fail)
  clear c3 c4
  by_cases hw : il.size+1<2*(ol.size+1)
  ·have hw' : ((il.size : Int)+1)<2*((ol.size : Int)+1):=by omega
   have b1:=beside_any b k v n xl xr l il pl ip B (by omega) (by omega) (W.drewN nq) HW.out.2.2.2.2.2 (HW.out.1.later (below_drewN W nq)) (HW.out.2.1.drewN nq) (HW.out.2.2.2.1.drewN nq)
   go_wp2_with (first
    | (go_at_call 195; (with_reducible refine (w1 _).mono ?_); rintro e x1 ⟨rfl,rfl⟩)
    | (go_at_call 195; (with_reducible refine (w2 _).mono ?_); rintro e x1 ⟨rfl,rfl⟩)
    | (go_at_call 198; (with_reducible refine b1.mono ?_); clear b1; rintro e x1 ⟨p1,rfl,ht1,hb1⟩; have hb1:=below_on (below_drewN W nq) hb1; have b2':=beside_any b2 k2 v2 _ ip op (.nd k v l il) ol p1 op B (by show l.size+1+il.size≤1000000; omega) (by omega) x1 (Nat.le_trans HW.out.2.2.2.2.2 hb1.size) (HW.out.2.2.1.later hb1) ht1 (HW.out.2.2.2.2.1.later hb1))
    | (go_at_call 198; (with_reducible refine b2'.mono ?_); clear b2'; rintro e x2 ⟨p2,rfl,ht2,hb2⟩))
   go_ret
   exact ⟨_,p2,rfl,ht2,by simp [T.toL],below_on hb1 hb2⟩
  ·have hw' : ¬ ((il.size : Int)+1)<2*((ol.size : Int)+1):=by omega
   cases il with
   | nil=>exact absurd hw (by simp [T.size]; omega)
   | nd k3 v3 a c =>
    obtain ⟨b3,ap,cp,rfl,hb3,hh3,ha,hc⟩:=HW.out.2.2.2.1
    have hn3:=nd_of hh3
    have hs3 : l.size+1+(a.size+1+c.size+1+ol.size)≤1000000:=hs
    have b1:=beside_any b k v n xl xr l a pl ap B (by omega) (by omega) (W.drewN (nq+1)) HW.out.2.2.2.2.2 (HW.out.1.later (below_drewN W (nq+1))) (HW.out.2.1.drewN (nq+1)) (ha.drewN (nq+1))
    have HW3:=Lib.hid (And.intro ha (And.intro hc hn3))
    have hn3':=hn3.later (below_drewN W nq)
    have hn3d:=hn3.later (below_drewN W (nq+1))
    clear ha hc hh3 hn3
    generalize (T.nd k3 v3 a c).size=zi at w1 hw'
    go_upto_region 4 with (first
     | (go_at_call 195; (with_reducible refine (w1 _).mono ?_); rintro e x1 ⟨rfl,rfl⟩)
     | (go_at_call 195; (with_reducible refine (w2 _).mono ?_); rintro e x1 ⟨rfl,rfl⟩))
    go_region_held3 (fun w=>w.cell? ⟨b3,3,none⟩=some (.pointer ap)∧w.cell? ⟨b3,4,none⟩=some (.pointer cp)) (first | exact ⟨hn3'.c3,hn3'.c4⟩ | exact ⟨hn31.c3,hn31.c4⟩ | exact ⟨hn32.c3,hn32.c4⟩ | exact ⟨hn33.c3,hn33.c4⟩ | exact ⟨hn3d.c3,hn3d.c4⟩) (first
     | (go_at_call 198; (with_reducible refine b1.mono ?_); clear b1; rintro e x1 ⟨p1,rfl,ht1,hb1⟩; have hb1:=below_on (below_drewN W (nq+1)) hb1; have hn31:=HW3.out.2.2.later hb1; have b2':=beside_any b2 k2 v2 _ _ op c ol cp op B (by omega) (by omega) x1 (Nat.le_trans HW.out.2.2.2.2.2 hb1.size) (HW.out.2.2.1.later hb1) (HW3.out.2.1.later hb1) (HW.out.2.2.2.2.1.later hb1))
     | (go_at_call 198; (with_reducible refine b2'.mono ?_); clear b2'; rintro e x2 ⟨p2,rfl,ht2,hb2⟩; have ht1:=ht1.later hb2; have hb2:=below_on hb1 hb2; have hn32:=HW3.out.2.2.later hb2; have b3':=beside_any b3 k3 v3 _ ap cp (.nd k v l a) (.nd k2 v2 c ol) p1 p2 B (by show l.size+1+a.size≤1000000; omega) (by show c.size+1+ol.size≤1000000; omega) x2 (Nat.le_trans HW.out.2.2.2.2.2 hb2.size) hn32 ht1 ht2)
     | (go_at_call 198; (with_reducible refine b3'.mono ?_); clear b3'; rintro e x3 ⟨p3,rfl,ht3,hb3⟩; have hb3:=below_on hb2 hb3; have hn33:=HW3.out.2.2.later hb3))
    go_wp2_with fail
    go_ret
    exact ⟨_,p3,rfl,ht3,by simp [T.toL],hb3⟩
variable {M : Nat}
set_option maxRecDepth 100000 in
set_option maxHeartbeats 1000000 in
theorem tR_any (b : Nat) (k : K M) (v : Int) (n : Int) (xl xr : Option Addr) (l r : T (K M) Int) (pl pr : Option Addr) (B : Nat) (hl0 : l≠.nil) (hs : l.size+1+r.size≤1000000) (W : World) (hB : B≤W.heap.size) (hb : Nd W b k v n xl xr)
  (h1 : Tr W B l pl) (h2 : Tr W B r pr) : Calls Tryz.prog 197 #[(Value.pointer (some ⟨b,0,none⟩)),.pointer pl,.pointer pr] W (MakesL W B (l.toL ++ (k,v) :: r.toL)):=by
 cases l with
 | nil=>exact absurd rfl hl0
 | nd k2 v2 ol il =>
  obtain ⟨b2,op,ip,rfl,hb2,hh2,ho,hi⟩:=h1
  have hn2:=nd_of hh2
  have hs' : (ol.size+1+il.size)+1+r.size≤1000000:=hs
  have w1:=fun q=>weight_any il ip B (by omega) (W.drewN q) (hi.drewN q)
  have w2:=fun q=>weight_any ol op B (by omega) (W.drewN q) (ho.drewN q)
  have HW:=Lib.hid (And.intro hb (And.intro h2 (And.intro hn2 (And.intro hi (And.intro ho hB)))))
  clear hb h2 hi ho hB hh2
  obtain ⟨_,_,_,c3,c4⟩:=hn2
  go_enter Tryz.func197,Tryz.ntmps197
  go_wp2_with fail
  go_quiet (fail)
  clear c3 c4
  by_cases hw : il.size+1<2*(ol.size+1)
  ·have hw' : ((il.size : Int)+1)<2*((ol.size : Int)+1):=by omega
   have b1:=beside_any b k v n xl xr il r ip pr B (by omega) (by omega) (W.drewN nq) HW.out.2.2.2.2.2 (HW.out.1.later (below_drewN W nq)) (HW.out.2.2.2.1.drewN nq) (HW.out.2.1.drewN nq)
   go_wp2_with (first
    | (go_at_call 195; (with_reducible refine (w1 _).mono ?_); rintro e x1 ⟨rfl,rfl⟩)
    | (go_at_call 195; (with_reducible refine (w2 _).mono ?_); rintro e x1 ⟨rfl,rfl⟩)
    | (go_at_call 198; (with_reducible refine b1.mono ?_); clear b1; rintro e x1 ⟨p1,rfl,ht1,hb1⟩; have hb1:=below_on (below_drewN W nq) hb1; have b2':=beside_any b2 k2 v2 _ op ip ol (.nd k v il r) op p1 B (by omega) (by show il.size+1+r.size≤1000000; omega) x1 (Nat.le_trans HW.out.2.2.2.2.2 hb1.size) (HW.out.2.2.1.later hb1) (HW.out.2.2.2.2.1.later hb1) ht1)
    | (go_at_call 198; (with_reducible refine b2'.mono ?_); clear b2'; rintro e x2 ⟨p2,rfl,ht2,hb2⟩))
   go_ret
   exact ⟨_,p2,rfl,ht2,by simp [T.toL],below_on hb1 hb2⟩
  ·have hw' : ¬ ((il.size : Int)+1)<2*((ol.size : Int)+1):=by omega
   cases il with
   | nil=>exact absurd hw (by simp [T.size]; omega)
   | nd k3 v3 a c =>
    obtain ⟨b3,ap,cp,rfl,hb3,hh3,ha,hc⟩:=HW.out.2.2.2.1
    have hn3:=nd_of hh3
    have hs3 : (ol.size+1+(a.size+1+c.size))+1+r.size≤1000000:=hs
    have b1:=beside_any b2 k2 v2 _ _ _ ol a op ap B (by omega) (by omega) (W.drewN (nq+1)) HW.out.2.2.2.2.2 (HW.out.2.2.1.later (below_drewN W (nq+1))) (HW.out.2.2.2.2.1.drewN (nq+1)) (ha.drewN (nq+1))
    have HW3:=Lib.hid (And.intro ha (And.intro hc hn3))
    have hn3':=hn3.later (below_drewN W nq)
    have hn3d:=hn3.later (below_drewN W (nq+1))
    clear ha hc hh3 hn3
    generalize (T.nd k3 v3 a c).size=zi at w1 hw'
    go_upto_region 4 with (first
     | (go_at_call 195; (with_reducible refine (w1 _).mono ?_); rintro e x1 ⟨rfl,rfl⟩)
     | (go_at_call 195; (with_reducible refine (w2 _).mono ?_); rintro e x1 ⟨rfl,rfl⟩))
    go_region_held3 (fun w=>w.cell? ⟨b3,3,none⟩=some (.pointer ap)∧w.cell? ⟨b3,4,none⟩=some (.pointer cp)) (first | exact ⟨hn3'.c3,hn3'.c4⟩ | exact ⟨hn31.c3,hn31.c4⟩ | exact ⟨hn32.c3,hn32.c4⟩ | exact ⟨hn33.c3,hn33.c4⟩ | exact ⟨hn3d.c3,hn3d.c4⟩) (first
     | (go_at_call 198; (with_reducible refine b1.mono ?_); clear b1; rintro e x1 ⟨p1,rfl,ht1,hb1⟩; have hb1:=below_on (below_drewN W (nq+1)) hb1; have hn31:=HW3.out.2.2.later hb1; have b2':=beside_any b k v _ _ _ c r cp pr B (by omega) (by omega) x1 (Nat.le_trans HW.out.2.2.2.2.2 hb1.size) (HW.out.1.later hb1) (HW3.out.2.1.later hb1) (HW.out.2.1.later hb1))
     | (go_at_call 198; (with_reducible refine b2'.mono ?_); clear b2'; rintro e x2 ⟨p2,rfl,ht2,hb2⟩; have ht1:=ht1.later hb2; have hb2:=below_on hb1 hb2; have hn32:=HW3.out.2.2.later hb2; have b3':=beside_any b3 k3 v3 _ ap cp (.nd k2 v2 ol a) (.nd k v c r) p1 p2 B (by show ol.size+1+a.size≤1000000; omega) (by show c.size+1+r.size≤1000000; omega) x2 (Nat.le_trans HW.out.2.2.2.2.2 hb2.size) hn32 ht1 ht2)
     | (go_at_call 198; (with_reducible refine b3'.mono ?_); clear b3'; rintro e x3 ⟨p3,rfl,ht3,hb3⟩; have hb3:=below_on hb2 hb3; have hn33:=HW3.out.2.2.later hb3))
    go_wp2_with fail
    go_ret
    exact ⟨_,p3,rfl,ht3,by simp [T.toL],hb3⟩
set_option maxRecDepth 100000 in
set_option maxHeartbeats 1000000 in
theorem balanced_any (b : Nat) (k : K M) (v : Int) (n : Int) (xl xr : Option Addr) (l r : T (K M) Int) (pl pr : Option Addr) (B : Nat) (hs : l.size+1+r.size≤1000000) (W : World) (hB : B≤W.heap.size) (hb : Nd W b k v n xl xr)
  (h1 : Tr W B l pl) (h2 : Tr W B r pr) : Calls Tryz.prog 188 #[(Value.pointer (some ⟨b,0,none⟩)),.pointer pl,.pointer pr] W (MakesL W B (l.toL ++ (k,v) :: r.toL)):=by
 have wl:=weight_any l pl B (by omega) W h1
 have wr:=weight_any r pr B (by omega) W h2
 by_cases c1 : 3*(l.size+1)<r.size+1
 ·have c1' : 3*((l.size : Int)+1)<(r.size : Int)+1:=by omega
  have hc:=tL_any b k v n xl xr l r pl pr B (by intro e; rw [e] at c1; simp [T.size] at c1) hs W hB hb h1 h2
  go_enter Tryz.func188,Tryz.ntmps188
  go_wp2_with (first
   | (go_at_call 195; (with_reducible refine wr.mono ?_); rintro e x1 ⟨rfl,rfl⟩)
   | (go_at_call 195; (with_reducible refine wl.mono ?_); rintro e x1 ⟨rfl,rfl⟩)
   | (go_at_call 196; (with_reducible refine hc.mono ?_); rintro e x1 ⟨t,p,rfl,h⟩))
  go_ret
  exact ⟨t,p,rfl,h⟩
 ·have c1' : ¬ 3*((l.size : Int)+1)<(r.size : Int)+1:=by omega
  by_cases c2 : 3*(r.size+1)<l.size+1
  ·have c2' : 3*((r.size : Int)+1)<(l.size : Int)+1:=by omega
   have hc:=tR_any b k v n xl xr l r pl pr B (by intro e; rw [e] at c2; simp [T.size] at c2) hs W hB hb h1 h2
   go_enter Tryz.func188,Tryz.ntmps188
   go_wp2_with (first
    | (go_at_call 195; (with_reducible refine wr.mono ?_); rintro e x1 ⟨rfl,rfl⟩)
    | (go_at_call 195; (with_reducible refine wl.mono ?_); rintro e x1 ⟨rfl,rfl⟩)
    | (go_at_call 197; (with_reducible refine hc.mono ?_); rintro e x1 ⟨t,p,rfl,h⟩))
   go_ret
   exact ⟨t,p,rfl,h⟩
  ·have c2' : ¬ 3*((r.size : Int)+1)<(l.size : Int)+1:=by omega
   have hc:=beside_any b k v n xl xr l r pl pr B (by omega) (by omega) W hB hb h1 h2
   go_enter Tryz.func188,Tryz.ntmps188
   go_wp2_with (first
    | (go_at_call 195; (with_reducible refine wr.mono ?_); rintro e x1 ⟨rfl,rfl⟩)
    | (go_at_call 195; (with_reducible refine wl.mono ?_); rintro e x1 ⟨rfl,rfl⟩)
    | (go_at_call 198; (with_reducible refine hc.mono ?_); rintro e x1 ⟨p,rfl,ht,hbe⟩))
   go_ret
   exact ⟨_,p,rfl,ht,rfl,hbe⟩
end Go.Proofs.YtjepplacnaoomaaGreat.Co.S
