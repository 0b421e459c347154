import Derived.Test.YthlccadnojnkaaaGreatZk1
import Derived.Test.YthlccadnojnkaaaGreatZk5
import Derived.WalkKit
import Derived.Below
import Derived.ProofKit
import Derived.Deep.QuietTactic
import Derived.BigQuiet
import Derived.StillTailTactics
import Derived.Deep.Cut
import Derived.IntWalk
import Derived.Deep.RegionHeld3
import Derived.Lib.Hide
set_option maxHeartbeats 1000000
set_option maxRecDepth 100000
namespace Go.Proofs.YthlccadnojnkaaaGreat.Co.S
open Go Go.RowKit Go.Proofs Go.Proofs.YthlccadnojnkaaaGreat Go.Proofs.YthlccadnojnkaaaGreat.Co
variable {M:Nat}
def Tr (W:World) (B:Nat):T (K M) Int->Option Addr->Prop
 | .nil,p=>p=none
 | .nd k v l r,p=>∃ (b:Nat) (lp rp:Option Addr),p=some ⟨b,0,none⟩/\B<=b/\W.heap[b]?=some (.cells #[(Value.string (k).1),(Value.int .i64 (v)),(Value.int .i64 (((l.size+1+r.size:Nat):Int))),.pointer lp,.pointer rp] 220)/\Tr W B l lp/\Tr W B r rp
theorem aC {W:World} {b:Nat} {o:Obj} (h:W.heap[b]?=some o):b<W.heap.size:=(Array.getElem?_eq_some_iff.1 h).1
theorem Tr.of {W W':World} {B:Nat} (hb:∀ b,B<=b->b<W.heap.size->W'.heap[b]?=W.heap[b]?):∀ {t:T (K M) Int} {p:Option Addr},Tr W B t p->Tr W' B t p
 | .nil,_,h=>h
 | .nd _ _ _ _,_,⟨b,lp,rp,h1,h2,h3,h4,h5⟩=>⟨b,lp,rp,h1,h2,(hb b h2 (aC h3)).trans h3,Tr.of hb h4,Tr.of hb h5⟩
theorem Tr.later {W W':World} {B:Nat} {t:T (K M) Int} {p:Option Addr} (h:Tr W B t p) (hb:Below W.heap.size W W'):Tr W' B t p:=Tr.of (fun b _ h=>hb.block b h) h
theorem Tr.drewN {W:World} {B:Nat} {t:T (K M) Int} {p:Option Addr} (h:Tr W B t p) (q:Nat):Tr (W.drewN q) B t p:=Tr.of (W:=W) (W':=W.drewN q) (fun _ _ _=>rfl) h
theorem Tr.drew {W:World} {B:Nat} {t:T (K M) Int} {p:Option Addr} (h:Tr W B t p):Tr W.drew B t p:=Tr.of (W:=W) (W':=W.drew) (fun _ _ _=>rfl) h
theorem aA {W:World} {b:Nat} {cs:Array Value} {t:TypeId} (h:W.heap[b]?=some (.cells cs t)) (i:Nat):W.cell? ⟨b,i,none⟩=cs[i]?:=by simp[World.cell?,h]
structure Nd (W:World) (b:Nat) (k:K M) (v:Int) (n:Int) (lp rp:Option Addr):Prop where
 c0:W.cell? ⟨b,0,none⟩=some (Value.string (k).1)
 c1:W.cell? ⟨b,1,none⟩=some (Value.int .i64 (v))
 c2:W.cell? ⟨b,2,none⟩=some (Value.int .i64 (n))
 c3:W.cell? ⟨b,3,none⟩=some (.pointer lp)
 c4:W.cell? ⟨b,4,none⟩=some (.pointer rp)
theorem eH {W:World} {b:Nat} {k:K M} {v:Int} {n:Int} {lp rp:Option Addr} {t:TypeId} (h:W.heap[b]?=some (.cells #[(Value.string (k).1),(Value.int .i64 (v)),(Value.int .i64 (n)),.pointer lp,.pointer rp] t)):Nd W b k v n lp rp :=
 ⟨aA h 0,aA h 1,aA h 2,aA h 3,aA h 4⟩
theorem Nd.lt {W:World} {b:Nat} {k:K M} {v:Int} {n:Int} {lp rp:Option Addr} (h:Nd W b k v n lp rp):b<W.heap.size:=World.block_lt_of_cell? W ⟨b,0,none⟩ h.c0
theorem Nd.of {W W':World} {b:Nat} {k:K M} {v:Int} {n:Int} {lp rp:Option Addr} (h:Nd W b k v n lp rp) (hb:W'.heap[b]?=W.heap[b]?):Nd W' b k v n lp rp :=
 ⟨(World.cell?_of_block (w:=W) hb).trans h.c0,(World.cell?_of_block (w:=W) hb).trans h.c1,(World.cell?_of_block (w:=W) hb).trans h.c2,(World.cell?_of_block (w:=W) hb).trans h.c3,(World.cell?_of_block (w:=W) hb).trans h.c4⟩
theorem Nd.later {W W':World} {b:Nat} {k:K M} {v:Int} {n:Int} {lp rp:Option Addr} (h:Nd W b k v n lp rp) (hb:Below W.heap.size W W'):Nd W' b k v n lp rp:=h.of (hb.block b h.lt)
theorem aB {W A B:World} (h:Below W.heap.size W A) (k:Below A.heap.size A B):Below W.heap.size W B:=h.trans (k.mono h.size)
theorem aD (W:World) (o:Obj):Below W.heap.size W (W.alloc o):=(Below.refl _ W).alloc (Nat.le_refl _) o
theorem aG (W:World) (q:Nat):Below W.heap.size W (W.drewN q):=⟨rfl,rfl,rfl,Nat.le_refl _,fun _ _=>rfl⟩
theorem bB (t:T (K M) Int) (p:Option Addr) (B:Nat) (W:World) (h:Tr W B t p):Calls Tryz.prog 187 #[.pointer p] W fun e w'=>e=.returned (Value.int .i64 ((t.size:Int)))/\w'=W:=by
 cases t with
 | nil =>
  obtain rfl:p=none:=h;go_enter Tryz.func187,Tryz.ntmps187
  go_wp2
  go_ret;exact⟨rfl,rfl⟩
 | nd k v l r =>
  obtain⟨b,lv,rv,rfl,_,hh,_,_⟩:=h;have hc:=(eH hh).c2;show Calls Tryz.prog 187 _ W fun e w'=>e=.returned (Value.int .i64 (((l.size+1+r.size:Nat):Int)))/\w'=W
  generalize l.size+1+r.size=n at hc;go_enter Tryz.func187,Tryz.ntmps187
  go_wp2
  go_ret;exact⟨rfl,rfl⟩
theorem cN (t:T (K M) Int) (p:Option Addr) (B:Nat) (hs:t.size<=1000000) (W:World) (h:Tr W B t p):Calls Tryz.prog 215 #[.pointer p] W fun e w'=>e=.returned (Value.int .i64 (((t.size+1:Nat):Int)))/\w'=W:=by
 have hc:=bB t p B W h;generalize t.size=n at hs hc;go_enter Tryz.func215,Tryz.ntmps215;go_wp2_with (go_at_call 187;refine hc.mono ?_;rintro e w1 ⟨rfl,rfl⟩);go_ret;exact⟨by simp,rfl⟩
def Makes (W:World) (B:Nat) (t:T (K M) Int) (e:Ending) (W':World):Prop:=∃ p,e=.returned (.pointer p)/\Tr W' B t p/\Below W.heap.size W W'
theorem yP (W:World) (B:Nat) (hB:B<=W.heap.size) (k:K M) (v:Int) (l r:T (K M) Int) (n:Int) (hn:n=((l.size+1+r.size:Nat):Int)) (lp rp:Option Addr) (h1:Tr W B l lp) (h2:Tr W B r rp) :
  Tr (W.alloc (.cells #[(Value.string (k).1),(Value.int .i64 (v)),(Value.int .i64 (n)),.pointer lp,.pointer rp] 220)) B (.nd k v l r) (some ⟨W.heap.size,0,none⟩) :=
 ⟨W.heap.size,lp,rp,rfl,hB,by rw[hn];exact heap_alloc_new W _,h1.later (aD W _),h2.later (aD W _)⟩
theorem bI (b:Nat) (k:K M) (v:Int) (n:Int) (xl xr:Option Addr) (l r:T (K M) Int) (pl pr:Option Addr) (B:Nat) (hl:l.size<=1000000) (hr:r.size<=1000000) (W:World) (hB:B<=W.heap.size) (hb:Nd W b k v n xl xr)
  (h1:Tr W B l pl) (h2:Tr W B r pr):Calls Tryz.prog 218 #[.pointer (some ⟨b,0,none⟩),.pointer pl,.pointer pr] W (Makes W B (.nd k v l r)):=by
 have c1:=bB l pl B W.drew h1.drew;have c2:=bB r pr B W.drew h2.drew;have HB:=qAq (qBq hB (qBq h1 h2));have ck:∀ o,(W.alloc o).cell? ⟨b,0,none⟩=some (Value.string (k).1)/\(W.alloc o).cell? ⟨b,1,none⟩=some (Value.int .i64 (v)):=(fun o=>⟨(hb.later (aD W o)).c0,(hb.later (aD W o)).c1⟩);obtain⟨c0',c1',_,_,_⟩:=hb;obtain⟨nl,hnl⟩:∃ nl,l.size=nl:=⟨_,rfl⟩;obtain⟨nr,hnr⟩:∃ nr,r.size=nr:=⟨_,rfl⟩;rw[hnl] at c1 hl;rw[hnr] at c2 hr;have HN:=qAq (qBq hnl hnr);clear hnl hnr hB h1 h2;go_enter Tryz.func218,Tryz.ntmps218;go_wp2_with fail
 go_region_held3 (fun w=>w.cell? ⟨b,0,none⟩=some (Value.string (k).1)/\w.cell? ⟨b,1,none⟩=some (Value.int .i64 (v))) (first|exact⟨c0',c1'⟩ | exact ck _) (first
  | (go_at_call 187;(with_reducible refine c1.mono ?_);rintro e w1 ⟨rfl,rfl⟩)
  | (go_at_call 187;(with_reducible refine c2.mono ?_);rintro e w1 ⟨rfl,rfl⟩))
 go_wp2_with fail;go_ret;exact⟨_,rfl,(yP W B HB.out.1 k v l r _ (by rw[Go.IntWalk.i64_left,Go.IntWalk.i64_left,Go.IntWalk.wrap64_in ((nl:Int)+1) (by omega),Go.IntWalk.wrap64_in ((nl:Int)+1+nr) (by omega),HN.out.1,HN.out.2];omega) pl pr HB.out.2.1 HB.out.2.2).drew,(aD W _).drew⟩
variable {M:Nat}
def MakesL (W:World) (B:Nat) (L:List (K M×Int)) (e:Ending) (W':World):Prop:=∃ t p,e=.returned (.pointer p)/\Tr W' B t p/\t.toL=L/\Below W.heap.size W W'
theorem bS {t:T (K M) Int} {L:List (K M×Int)} (h:t.toL=L):t.size=L.length:=by rw[<- h,T.len]
theorem aHM (b:Nat) (k:K M) (v:Int) (n:Int) (xl xr:Option Addr) (l r:T (K M) Int) (pl pr:Option Addr) (B:Nat) (hr0:r≠.nil) (hs:l.size+1+r.size<=1000000) (W:World) (hB:B<=W.heap.size) (hb:Nd W b k v n xl xr)
  (h1:Tr W B l pl) (h2:Tr W B r pr):Calls Tryz.prog 216 #[.pointer (some ⟨b,0,none⟩),.pointer pl,.pointer pr] W (MakesL W B (l.toL++(k,v)::r.toL)):=by
 cases r with
 | nil=>exact absurd rfl hr0
 | nd k2 v2 il ol =>
  obtain⟨b2,ip,op,rfl,hb2,hh2,hi,ho⟩:=h2;have hn2:=eH hh2;have hs':l.size+1+(il.size+1+ol.size)<=1000000:=hs;have w1:=(fun q=>cN il ip B (by omega) (W.drewN q) (hi.drewN q));have w2:=(fun q=>cN ol op B (by omega) (W.drewN q) (ho.drewN q));have HW:=qAq (qBq hb (qBq h1 (qBq hn2 (qBq hi (qBq ho hB)))));clear hb h1 hi ho hB hh2;obtain⟨_,_,_,c3,c4⟩:=hn2;go_enter Tryz.func216,Tryz.ntmps216;go_wp2_with fail
  go_quiet (fail)
  clear c3 c4;by_cases hw:il.size+1<2*(ol.size+1)
  ·have hw':((il.size:Int)+1)<2*((ol.size:Int)+1):=(by omega);have b1:=bI b k v n xl xr l il pl ip B (by omega) (by omega) (W.drewN nq) HW.out.2.2.2.2.2 (HW.out.1.later (aG W nq)) (HW.out.2.1.drewN nq) (HW.out.2.2.2.1.drewN nq)
   go_wp2_with (first
    | (go_at_call 215;(with_reducible refine (w1 _).mono ?_);rintro e x1 ⟨rfl,rfl⟩)
    | (go_at_call 215;(with_reducible refine (w2 _).mono ?_);rintro e x1 ⟨rfl,rfl⟩)
    | (go_at_call 218;(with_reducible refine b1.mono ?_);clear b1;rintro e x1 ⟨p1,rfl,ht1,hb1⟩;have hb1:=aB (aG W nq) hb1;have b2':=bI b2 k2 v2 _ ip op (.nd k v l il) ol p1 op B (by show l.size+1+il.size<=1000000;omega) (by omega) x1 (Nat.le_trans HW.out.2.2.2.2.2 hb1.size) (HW.out.2.2.1.later hb1) ht1 (HW.out.2.2.2.2.1.later hb1))
    | (go_at_call 218;(with_reducible refine b2'.mono ?_);clear b2';rintro e x2 ⟨p2,rfl,ht2,hb2⟩))
   go_ret;exact⟨_,p2,rfl,ht2,by simp[T.toL],aB hb1 hb2⟩
  ·have hw':¬ ((il.size:Int)+1)<2*((ol.size:Int)+1):=(by omega);cases il with
   | nil=>exact absurd hw (by simp[T.size];omega)
   | nd k3 v3 a c =>
    obtain⟨b3,ap,cp,rfl,hb3,hh3,ha,hc⟩:=HW.out.2.2.2.1;have hn3:=eH hh3;have hs3:l.size+1+(a.size+1+c.size+1+ol.size)<=1000000:=hs;have b1:=bI b k v n xl xr l a pl ap B (by omega) (by omega) (W.drewN (nq+1)) HW.out.2.2.2.2.2 (HW.out.1.later (aG W (nq+1))) (HW.out.2.1.drewN (nq+1)) (ha.drewN (nq+1));have HW3:=qAq (qBq ha (qBq hc hn3));have hn3':=hn3.later (aG W nq);have hn3d:=hn3.later (aG W (nq+1));clear ha hc hh3 hn3;generalize (T.nd k3 v3 a c).size=zi at w1 hw'
    go_upto_region 4 with (first
     | (go_at_call 215;(with_reducible refine (w1 _).mono ?_);rintro e x1 ⟨rfl,rfl⟩)
     | (go_at_call 215;(with_reducible refine (w2 _).mono ?_);rintro e x1 ⟨rfl,rfl⟩))
    go_region_held3 (fun w=>w.cell? ⟨b3,3,none⟩=some (.pointer ap)/\w.cell? ⟨b3,4,none⟩=some (.pointer cp)) (first|exact⟨hn3'.c3,hn3'.c4⟩ | exact⟨hn31.c3,hn31.c4⟩ | exact⟨hn32.c3,hn32.c4⟩ | exact⟨hn33.c3,hn33.c4⟩ | exact⟨hn3d.c3,hn3d.c4⟩) (first
     | (go_at_call 218;(with_reducible refine b1.mono ?_);clear b1;rintro e x1 ⟨p1,rfl,ht1,hb1⟩;have hb1:=aB (aG W (nq+1)) hb1;have hn31:=HW3.out.2.2.later hb1;have b2':=bI b2 k2 v2 _ _ op c ol cp op B (by omega) (by omega) x1 (Nat.le_trans HW.out.2.2.2.2.2 hb1.size) (HW.out.2.2.1.later hb1) (HW3.out.2.1.later hb1) (HW.out.2.2.2.2.1.later hb1))
     | (go_at_call 218;(with_reducible refine b2'.mono ?_);clear b2';rintro e x2 ⟨p2,rfl,ht2,hb2⟩;have ht1:=ht1.later hb2;have hb2:=aB hb1 hb2;have hn32:=HW3.out.2.2.later hb2;have b3':=bI b3 k3 v3 _ ap cp (.nd k v l a) (.nd k2 v2 c ol) p1 p2 B (by show l.size+1+a.size<=1000000;omega) (by show c.size+1+ol.size<=1000000;omega) x2 (Nat.le_trans HW.out.2.2.2.2.2 hb2.size) hn32 ht1 ht2)
     | (go_at_call 218;(with_reducible refine b3'.mono ?_);clear b3';rintro e x3 ⟨p3,rfl,ht3,hb3⟩;have hb3:=aB hb2 hb3;have hn33:=HW3.out.2.2.later hb3))
    go_wp2_with fail;go_ret;exact⟨_,p3,rfl,ht3,by simp[T.toL],hb3⟩
variable {M:Nat}
theorem aHN (b:Nat) (k:K M) (v:Int) (n:Int) (xl xr:Option Addr) (l r:T (K M) Int) (pl pr:Option Addr) (B:Nat) (hl0:l≠.nil) (hs:l.size+1+r.size<=1000000) (W:World) (hB:B<=W.heap.size) (hb:Nd W b k v n xl xr)
  (h1:Tr W B l pl) (h2:Tr W B r pr):Calls Tryz.prog 217 #[.pointer (some ⟨b,0,none⟩),.pointer pl,.pointer pr] W (MakesL W B (l.toL++(k,v)::r.toL)):=by
 cases l with
 | nil=>exact absurd rfl hl0
 | nd k2 v2 ol il =>
  obtain⟨b2,op,ip,rfl,hb2,hh2,ho,hi⟩:=h1;have hn2:=eH hh2;have hs':(ol.size+1+il.size)+1+r.size<=1000000:=hs;have w1:=(fun q=>cN il ip B (by omega) (W.drewN q) (hi.drewN q));have w2:=(fun q=>cN ol op B (by omega) (W.drewN q) (ho.drewN q));have HW:=qAq (qBq hb (qBq h2 (qBq hn2 (qBq hi (qBq ho hB)))));clear hb h2 hi ho hB hh2;obtain⟨_,_,_,c3,c4⟩:=hn2;go_enter Tryz.func217,Tryz.ntmps217;go_wp2_with fail
  go_quiet (fail)
  clear c3 c4;by_cases hw:il.size+1<2*(ol.size+1)
  ·have hw':((il.size:Int)+1)<2*((ol.size:Int)+1):=(by omega);have b1:=bI b k v n xl xr il r ip pr B (by omega) (by omega) (W.drewN nq) HW.out.2.2.2.2.2 (HW.out.1.later (aG W nq)) (HW.out.2.2.2.1.drewN nq) (HW.out.2.1.drewN nq)
   go_wp2_with (first
    | (go_at_call 215;(with_reducible refine (w1 _).mono ?_);rintro e x1 ⟨rfl,rfl⟩)
    | (go_at_call 215;(with_reducible refine (w2 _).mono ?_);rintro e x1 ⟨rfl,rfl⟩)
    | (go_at_call 218;(with_reducible refine b1.mono ?_);clear b1;rintro e x1 ⟨p1,rfl,ht1,hb1⟩;have hb1:=aB (aG W nq) hb1;have b2':=bI b2 k2 v2 _ op ip ol (.nd k v il r) op p1 B (by omega) (by show il.size+1+r.size<=1000000;omega) x1 (Nat.le_trans HW.out.2.2.2.2.2 hb1.size) (HW.out.2.2.1.later hb1) (HW.out.2.2.2.2.1.later hb1) ht1)
    | (go_at_call 218;(with_reducible refine b2'.mono ?_);clear b2';rintro e x2 ⟨p2,rfl,ht2,hb2⟩))
   go_ret;exact⟨_,p2,rfl,ht2,by simp[T.toL],aB hb1 hb2⟩
  ·have hw':¬ ((il.size:Int)+1)<2*((ol.size:Int)+1):=(by omega);cases il with
   | nil=>exact absurd hw (by simp[T.size];omega)
   | nd k3 v3 a c =>
    obtain⟨b3,ap,cp,rfl,hb3,hh3,ha,hc⟩:=HW.out.2.2.2.1;have hn3:=eH hh3;have hs3:(ol.size+1+(a.size+1+c.size))+1+r.size<=1000000:=hs;have b1:=bI b2 k2 v2 _ _ _ ol a op ap B (by omega) (by omega) (W.drewN (nq+1)) HW.out.2.2.2.2.2 (HW.out.2.2.1.later (aG W (nq+1))) (HW.out.2.2.2.2.1.drewN (nq+1)) (ha.drewN (nq+1));have HW3:=qAq (qBq ha (qBq hc hn3));have hn3':=hn3.later (aG W nq);have hn3d:=hn3.later (aG W (nq+1));clear ha hc hh3 hn3;generalize (T.nd k3 v3 a c).size=zi at w1 hw'
    go_upto_region 4 with (first
     | (go_at_call 215;(with_reducible refine (w1 _).mono ?_);rintro e x1 ⟨rfl,rfl⟩)
     | (go_at_call 215;(with_reducible refine (w2 _).mono ?_);rintro e x1 ⟨rfl,rfl⟩))
    go_region_held3 (fun w=>w.cell? ⟨b3,3,none⟩=some (.pointer ap)/\w.cell? ⟨b3,4,none⟩=some (.pointer cp)) (first|exact⟨hn3'.c3,hn3'.c4⟩ | exact⟨hn31.c3,hn31.c4⟩ | exact⟨hn32.c3,hn32.c4⟩ | exact⟨hn33.c3,hn33.c4⟩ | exact⟨hn3d.c3,hn3d.c4⟩) (first
     | (go_at_call 218;(with_reducible refine b1.mono ?_);clear b1;rintro e x1 ⟨p1,rfl,ht1,hb1⟩;have hb1:=aB (aG W (nq+1)) hb1;have hn31:=HW3.out.2.2.later hb1;have b2':=bI b k v _ _ _ c r cp pr B (by omega) (by omega) x1 (Nat.le_trans HW.out.2.2.2.2.2 hb1.size) (HW.out.1.later hb1) (HW3.out.2.1.later hb1) (HW.out.2.1.later hb1))
     | (go_at_call 218;(with_reducible refine b2'.mono ?_);clear b2';rintro e x2 ⟨p2,rfl,ht2,hb2⟩;have ht1:=ht1.later hb2;have hb2:=aB hb1 hb2;have hn32:=HW3.out.2.2.later hb2;have b3':=bI b3 k3 v3 _ ap cp (.nd k2 v2 ol a) (.nd k v c r) p1 p2 B (by show ol.size+1+a.size<=1000000;omega) (by show c.size+1+r.size<=1000000;omega) x2 (Nat.le_trans HW.out.2.2.2.2.2 hb2.size) hn32 ht1 ht2)
     | (go_at_call 218;(with_reducible refine b3'.mono ?_);clear b3';rintro e x3 ⟨p3,rfl,ht3,hb3⟩;have hb3:=aB hb2 hb3;have hn33:=HW3.out.2.2.later hb3))
    go_wp2_with fail;go_ret;exact⟨_,p3,rfl,ht3,by simp[T.toL],hb3⟩
theorem bK (b:Nat) (k:K M) (v:Int) (n:Int) (xl xr:Option Addr) (l r:T (K M) Int) (pl pr:Option Addr) (B:Nat) (hs:l.size+1+r.size<=1000000) (W:World) (hB:B<=W.heap.size) (hb:Nd W b k v n xl xr)
  (h1:Tr W B l pl) (h2:Tr W B r pr):Calls Tryz.prog 207 #[.pointer (some ⟨b,0,none⟩),.pointer pl,.pointer pr] W (MakesL W B (l.toL++(k,v)::r.toL)):=by
 have wl:=cN l pl B (by omega) W h1;have wr:=cN r pr B (by omega) W h2;by_cases c1:3*(l.size+1)<r.size+1
 ·have c1':3*((l.size:Int)+1)<(r.size:Int)+1:=(by omega);have hc:=aHM b k v n xl xr l r pl pr B (by intro e;rw[e] at c1;simp[T.size] at c1) hs W hB hb h1 h2;go_enter Tryz.func207,Tryz.ntmps207
  go_wp2_with (first
   | (go_at_call 215;(with_reducible refine wr.mono ?_);rintro e x1 ⟨rfl,rfl⟩)
   | (go_at_call 215;(with_reducible refine wl.mono ?_);rintro e x1 ⟨rfl,rfl⟩)
   | (go_at_call 216;(with_reducible refine hc.mono ?_);rintro e x1 ⟨t,p,rfl,h⟩))
  go_ret;exact⟨t,p,rfl,h⟩
 have c1':¬ 3*((l.size:Int)+1)<(r.size:Int)+1:=(by omega);by_cases c2:3*(r.size+1)<l.size+1
 ·have c2':3*((r.size:Int)+1)<(l.size:Int)+1:=(by omega);have hc:=aHN b k v n xl xr l r pl pr B (by intro e;rw[e] at c2;simp[T.size] at c2) hs W hB hb h1 h2;go_enter Tryz.func207,Tryz.ntmps207
  go_wp2_with (first
   | (go_at_call 215;(with_reducible refine wr.mono ?_);rintro e x1 ⟨rfl,rfl⟩)
   | (go_at_call 215;(with_reducible refine wl.mono ?_);rintro e x1 ⟨rfl,rfl⟩)
   | (go_at_call 217;(with_reducible refine hc.mono ?_);rintro e x1 ⟨t,p,rfl,h⟩))
  go_ret;exact⟨t,p,rfl,h⟩
 have c2':¬ 3*((r.size:Int)+1)<(l.size:Int)+1:=(by omega);have hc:=bI b k v n xl xr l r pl pr B (by omega) (by omega) W hB hb h1 h2;go_enter Tryz.func207,Tryz.ntmps207
 go_wp2_with (first
  | (go_at_call 215;(with_reducible refine wr.mono ?_);rintro e x1 ⟨rfl,rfl⟩)
  | (go_at_call 215;(with_reducible refine wl.mono ?_);rintro e x1 ⟨rfl,rfl⟩)
  | (go_at_call 218;(with_reducible refine hc.mono ?_);rintro e x1 ⟨p,rfl,ht,hbe⟩))
 go_ret;exact⟨_,p,rfl,ht,rfl,hbe⟩
variable {M:Nat}
theorem aEo (B:Nat):∀ (t:T (K M) Int) (p:Option Addr) (W:World),t≠.nil->t.size<=1000000->B<=W.heap.size->Tr W B t p->Calls Tryz.prog 221 #[.pointer p] W (MakesL W B t.toL.tail)
 | .nil,_,_,h,_,_,_=>absurd rfl h
 | .nd k v .nil r,p,W,_,_,_,h=>by
  obtain⟨b,lp,rp,rfl,_,hh,hl,hr⟩:=h;obtain rfl:lp=none:=hl;obtain⟨_,_,_,c3,c4⟩:=eH hh;go_enter Tryz.func221,Tryz.ntmps221;go_wp2_with fail;go_ret;exact⟨r,rp,rfl,hr,rfl,.refl _ _⟩
 | .nd k v (.nd k2 v2 l2 r2) r,p,W,_,hs,hB,h=>by
  obtain⟨b,lp,rp,rfl,_,hh,hl,hr⟩:=h;have hn:=eH hh;have hs':(l2.size+1+r2.size)+1+r.size<=1000000:=hs;have ih:=aEo B (.nd k2 v2 l2 r2) lp W.drew (by simp) (by show l2.size+1+r2.size<=1000000;omega) hB hl.drew;have HW:=qAq (qBq hn (qBq hr hB));obtain⟨bl,_,_,rfl,_⟩:=hl;have hnd:=hn.later (Below.refl _ W).drew;obtain⟨_,_,_,c3,c4⟩:=hn;clear hh hr;go_enter Tryz.func221,Tryz.ntmps221;go_wp2_with fail
  go_region_held3 (fun w=>w.cell? ⟨b,3,none⟩=some (.pointer (some ⟨bl,0,none⟩))/\w.cell? ⟨b,4,none⟩=some (.pointer rp)) (first|exact⟨c3,c4⟩ | exact⟨hnd.c3,hnd.c4⟩ | exact⟨hn1.c3,hn1.c4⟩ | exact⟨hn2.c3,hn2.c4⟩) (first
   | (go_at_call 221;(with_reducible refine ih.mono ?_);clear ih;rintro e x1 ⟨t1,p1,rfl,ht1,hL1,hb1⟩;have hb1:=aB (Below.refl _ W).drew hb1;have hn1:=HW.out.1.later hb1;have bal:=bK b k v _ _ _ t1 r p1 rp B (by have:=bS hL1;rw[List.length_tail,T.len] at this;simp only[T.size] at this;omega) x1 (Nat.le_trans HW.out.2.2 hb1.size) hn1 ht1 (HW.out.2.1.later hb1))
   | (go_at_call 207;(with_reducible refine bal.mono ?_);clear bal;rintro e x2 ⟨t2,p2,rfl,ht2,hL2,hb2⟩;have hb2:=aB hb1 hb2;have hn2:=HW.out.1.later hb2))
  go_wp2_with fail;go_ret;refine⟨t2,p2,rfl,ht2,?_,hb2⟩;rw[hL2,hL1];show _=((T.nd k2 v2 l2 r2).toL++(k,v)::r.toL).tail;rw[List.tail_append_of_ne_nil (by simp[T.toL])]
theorem aEp (B:Nat):∀ (t:T (K M) Int) (p:Option Addr) (W:World),t≠.nil->t.size<=1000000->B<=W.heap.size->Tr W B t p->Calls Tryz.prog 220 #[.pointer p] W (MakesL W B t.toL.dropLast)
 | .nil,_,_,h,_,_,_=>absurd rfl h
 | .nd k v l .nil,p,W,_,_,_,h=>by
  obtain⟨b,lp,rp,rfl,_,hh,hl,hr⟩:=h;obtain rfl:rp=none:=hr;obtain⟨_,_,_,c3,c4⟩:=eH hh;go_enter Tryz.func220,Tryz.ntmps220;go_wp2_with fail;go_ret;exact⟨l,lp,rfl,hl,by simp[T.toL],.refl _ _⟩
 | .nd k v l (.nd k2 v2 l2 r2),p,W,_,hs,hB,h=>by
  obtain⟨b,lp,rp,rfl,_,hh,hl,hr⟩:=h;have hn:=eH hh;have hs':l.size+1+(l2.size+1+r2.size)<=1000000:=hs;have ih:=aEp B (.nd k2 v2 l2 r2) rp W.drew (by simp) (by show l2.size+1+r2.size<=1000000;omega) hB hr.drew;have HW:=qAq (qBq hn (qBq hl hB));obtain⟨bl,_,_,rfl,_⟩:=hr;have hnd:=hn.later (Below.refl _ W).drew;obtain⟨_,_,_,c3,c4⟩:=hn;clear hh hl;go_enter Tryz.func220,Tryz.ntmps220;go_wp2_with fail
  go_region_held3 (fun w=>w.cell? ⟨b,3,none⟩=some (.pointer lp)/\w.cell? ⟨b,4,none⟩=some (.pointer (some ⟨bl,0,none⟩))) (first|exact⟨c3,c4⟩ | exact⟨hnd.c3,hnd.c4⟩ | exact⟨hn1.c3,hn1.c4⟩ | exact⟨hn2.c3,hn2.c4⟩) (first
   | (go_at_call 220;(with_reducible refine ih.mono ?_);clear ih;rintro e x1 ⟨t1,p1,rfl,ht1,hL1,hb1⟩;have hb1:=aB (Below.refl _ W).drew hb1;have hn1:=HW.out.1.later hb1;have bal:=bK b k v _ _ _ l t1 lp p1 B (by have:=bS hL1;rw[List.length_dropLast,T.len] at this;simp only[T.size] at this;omega) x1 (Nat.le_trans HW.out.2.2 hb1.size) hn1 (HW.out.2.1.later hb1) ht1)
   | (go_at_call 207;(with_reducible refine bal.mono ?_);clear bal;rintro e x2 ⟨t2,p2,rfl,ht2,hL2,hb2⟩;have hb2:=aB hb1 hb2;have hn2:=HW.out.1.later hb2))
  go_wp2_with fail;go_ret;refine⟨t2,p2,rfl,ht2,?_,hb2⟩;rw[hL2,hL1];show _=(l.toL++(k,v)::(T.nd k2 v2 l2 r2).toL).dropLast;rw[List.dropLast_append_of_ne_nil (by simp),List.dropLast_cons_of_ne_nil (by simp[T.toL])]
def look (L:List (K M×Int)) (i:Int):Option (K M×Int):=if 0<=i then L[i.toNat]? else none
def Found (W:World) (B:Nat):Option (K M×Int)->Option Addr->Prop
 | none,q=>q=none
 | some kv,q=>∃ b n lp rp,q=some ⟨b,0,none⟩/\B<=b/\Nd W b kv.1 kv.2 n lp rp
def szOf (w:World):Value->Nat
 | .pointer (some a)=>match w.cell? ⟨a.block,2,none⟩ with | some (.int _ n)=>n.toNat | _=>0
 | _=>0
theorem gQ {W:World} {B:Nat} {t:T (K M) Int} {p:Option Addr} (h:Tr W B t p):szOf W (.pointer p)=t.size:=by
 cases t with
 | nil=>obtain rfl:p=none:=h;rfl
 | nd k v l r =>
  obtain⟨b,lp,rp,rfl,_,hh,_⟩:=h;simp only[szOf,(eH hh).c2,T.size];omega
theorem aBZ {L R:List (K M×Int)} {kv:K M×Int} {i:Int} (h:i<L.length):look (L++kv::R) i=look L i:=by
 unfold look;split
 ·rw[List.getElem?_append_left (by omega)]
 rfl
theorem rW {L R:List (K M×Int)} {kv:K M×Int} {i:Int} (h:i=L.length):look (L++kv::R) i=some kv:=by
 unfold look;rw[if_pos (by omega),h]
 simp
theorem yQ {L R:List (K M×Int)} {kv:K M×Int} {i:Int} (h:(L.length:Int)<i):look (L++kv::R) i=look R (i-(L.length+1)):=by
 unfold look;rw[if_pos (by omega),if_pos (by omega),List.getElem?_append_right (by omega)];obtain⟨j,hj⟩:∃ j:Nat,i.toNat-L.length=j+1:=⟨i.toNat-L.length-1,by omega⟩;rw[hj,List.getElem?_cons_succ]
 congr 1
 omega
theorem look_nil (i:Int):look ([]:List (K M×Int)) i=none:=by unfold look;split <;> rfl
theorem aEq (B:Nat) (t:T (K M) Int) (p:Option Addr) (i:Int) (hi0:-9223372036854775808<=i) (hi1:i<=9223372036854775807) (hs:t.size<=1000000) (W:World) (h:Tr W B t p) :
  Calls Tryz.prog 219 #[.pointer p,.int .i64 (i)] W fun e w'=>w'=W/\∃ q,e=.returned (.pointer q)/\Found W B (look t.toL i) q:=by
 go_enter Tryz.func219,Tryz.ntmps219;go_wp2_with fail
 go_loopw [0,1] (fun pv iv w=>∃ (t':T (K M) Int) (p':Option Addr) (i':Int),pv=.pointer p'/\iv=.int .i64 i'/\w=W/\Tr W B t' p'/\t'.size<=1000000/\-9223372036854775808<=i'/\i'<=9223372036854775807/\look t.toL i=look t'.toL i') (fun pv _ w=>szOf w pv)
 case atStart=>exact⟨t,p,i,rfl,rfl,rfl,h,hs,hi0,hi1,rfl⟩
 obtain⟨t',p',i',rfl,rfl,rfl,ht,hs',hj0,hj1,hlk⟩:=hrel;have hsz:=gQ ht;cases t' with
 | nil =>
  obtain rfl:p'=none:=ht;go_wp2_with fail;go_ret;exact⟨rfl,none,rfl,by rw[hlk,T.toL,look_nil];rfl⟩
 | nd k v l r =>
  obtain⟨b,lp,rp,rfl,hb,hh,hl,hr⟩:=ht;have hn:=eH hh;have HN:=qAq hn;have cl:=bB l lp B wr hl;have hs2:l.size+1+r.size<=1000000:=hs';have szl:=gQ hl;have szr:=gQ hr;have hll:=T.len l;obtain⟨zl,hzl⟩:∃ zl,l.size=zl:=⟨_,rfl⟩;rw[hzl] at cl szl hll hs2;obtain⟨_,_,_,c3,c4⟩:=hn;have HSZ:=qAq hsz;have HS2:=qAq (qBq szl szr);clear hsz szl szr hh;have hszn:(T.nd k v l r).size=zl+1+r.size:=(by show l.size+1+r.size=_;rw[hzl]);rcases Int.lt_trichotomy i' (zl:Int) with hlt|heq|hgt
  ·go_wp2_with (go_at_call 187;(with_reducible refine cl.mono ?_);rintro e x1 ⟨rfl,rfl⟩);rw[hszn] at HSZ;refine⟨⟨l,lp,i',rfl,rfl,trivial,hl,by omega,hj0,hj1,by rw[hlk,T.toL,aBZ (by omega)]⟩,by rw[HSZ.out,HS2.out.1];omega⟩
  ·go_wp2_with (go_at_call 187;(with_reducible refine cl.mono ?_);rintro e x1 ⟨rfl,rfl⟩);go_ret;exact⟨rfl,_,rfl,by rw[hlk,T.toL,rW (by omega)];exact⟨b,_,_,_,rfl,hb,HN.out⟩⟩
  ·go_wp2_with (go_at_call 187;(with_reducible refine cl.mono ?_);rintro e x1 ⟨rfl,rfl⟩);rw[hszn] at HSZ;refine⟨⟨r,rp,i' - (zl+1),rfl,rfl,trivial,hr,by omega,by omega,by omega,by rw[hlk,T.toL,yQ (by omega),hll]⟩,by rw[HSZ.out,HS2.out.2];omega⟩
theorem aCa (B:Nat) (l r:T (K M) Int) (pl pr:Option Addr) (hs:l.size+r.size<=1000000) (W:World) (hB:B<=W.heap.size) (h1:Tr W B l pl) (h2:Tr W B r pr) :
  Calls Tryz.prog 208 #[.pointer pl,.pointer pr] W (MakesL W B (l.toL++r.toL)):=by
 have cl:=bB l pl B W h1;have cr:=bB r pr B W h2;by_cases hc:r.size<l.size
 ·have hc':(r.size:Int)<(l.size:Int):=(by omega);have hl0:l≠.nil:=(by intro e;rw[e] at hc;simp[T.size] at hc);rcases List.eq_nil_or_concat l.toL with e|⟨L0,kv,e⟩
  ·exact absurd (T.toL_nil e) hl0
  rw[List.concat_eq_append] at e;have hlen:l.size=L0.length+1:=(by rw[<- T.len,e];simp);have hat:=aEq B l pl (L0.length:Int) (by omega) (by omega) (by omega) W h1;rw[e,rW rfl] at hat;have hwl:=aEp B l pl W hl0 (by omega) hB h1;rw[hlen] at cl hc';go_enter Tryz.func208,Tryz.ntmps208
  go_wp2_with (first
   | (go_at_call 187;(with_reducible refine cl.mono ?_);rintro e x1 ⟨rfl,rfl⟩)
   | (go_at_call 187;(with_reducible refine cr.mono ?_);rintro e x1 ⟨rfl,rfl⟩)
   | (go_at_call 219;(with_reducible refine hat.mono ?_);rintro e x1 ⟨rfl,q,rfl,b,n,lp,rp,rfl,hb,hn⟩)
   | (go_at_call 220;(with_reducible refine hwl.mono ?_);rintro e x2 ⟨t1,p1,rfl,ht1,hL1,hb1⟩;have bal:=bK b kv.1 kv.2 n lp rp t1 r p1 pr B (by have:=bS hL1;rw[List.length_dropLast,T.len] at this;omega) x2 (Nat.le_trans hB hb1.size) (hn.later hb1) ht1 (h2.later hb1))
   | (go_at_call 207;(with_reducible refine bal.mono ?_);clear bal;rintro e x3 ⟨t2,p2,rfl,ht2,hL2,hb2⟩))
  go_ret;refine⟨t2,p2,rfl,ht2,?_,aB hb1 hb2⟩;rw[hL2,hL1,e]
  simp
 have hc':¬ (r.size:Int)<(l.size:Int):=(by omega);cases r with
 | nil =>
  obtain rfl:pr=none:=h2
  have hl0:l=.nil:=by
   cases l with
   | nil=>rfl
   | nd k v a c=>exact absurd (by simp[T.size];omega) hc
  subst hl0;go_enter Tryz.func208,Tryz.ntmps208
  go_wp2_with (first
   | (go_at_call 187;(with_reducible refine cl.mono ?_);rintro e x1 ⟨rfl,rfl⟩)
   | (go_at_call 187;(with_reducible refine cr.mono ?_);rintro e x1 ⟨rfl,rfl⟩))
  go_ret;exact⟨.nil,none,rfl,rfl,rfl,.refl _ _⟩
 | nd k v a c =>
  have hwf:=aEo B (.nd k v a c) pr W (by simp) (by omega) hB h2;have hat:=aEq B (.nd k v a c) pr 0 (by omega) (by omega) (by omega) W h2
  obtain⟨kv,L1,hL⟩:∃ kv L1,(T.nd k v a c).toL=kv::L1:=by
   cases hq:(T.nd k v a c).toL with
   | nil=>simp[T.toL] at hq
   | cons kv L1=>exact⟨kv,L1,rfl⟩
  have hlk:look (kv::L1) 0=some kv:=rW (L:=[]) rfl;rw[hL,hlk] at hat;rw[hL] at hwf;have hsz:(T.nd k v a c).size=L1.length+1:=(by rw[<- T.len,hL];simp);rw[hL];rw[hsz] at cr hc' hs;have H2:=qAq h2;obtain⟨b0,_,_,rfl,_⟩:=h2;go_enter Tryz.func208,Tryz.ntmps208
  go_wp2_with (first
   | (go_at_call 187;(with_reducible refine cl.mono ?_);rintro e x1 ⟨rfl,rfl⟩)
   | (go_at_call 187;(with_reducible refine cr.mono ?_);rintro e x1 ⟨rfl,rfl⟩)
   | (go_at_call 219;(with_reducible refine hat.mono ?_);rintro e x1 ⟨rfl,q,rfl,b,n,lp,rp,rfl,hb,hn⟩)
   | (go_at_call 221;(with_reducible refine hwf.mono ?_);rintro e x2 ⟨t1,p1,rfl,ht1,hL1,hb1⟩;have bal:=bK b kv.1 kv.2 n lp rp l t1 pl p1 B (by have:=bS hL1;rw[List.tail_cons] at this;omega) x2 (Nat.le_trans hB hb1.size) (hn.later hb1) (h1.later hb1) ht1)
   | (go_at_call 207;(with_reducible refine bal.mono ?_);clear bal;rintro e x3 ⟨t2,p2,rfl,ht2,hL2,hb2⟩))
  go_ret;refine⟨t2,p2,rfl,ht2,?_,aB hb1 hb2⟩;rw[hL2,hL1];rfl
variable {M:Nat}
def Cmp (D:Nat) (W0:World) (cv:Value) (key:K M->Int):Prop:=∃ (g:Nat) (lb:Array Value),cv=.func (.func g) #[] lb/\(∀ a w,(callFunc g a).run Tryz.prog w=.ok (.enter g a) w) /\
 ∀ w (a b:K M),Below D W0 w->Calls Tryz.prog g (#[(Value.string (a).1),(Value.string (b).1)]++lb) w fun e w'=>e=.returned (Value.int .i64 (cmp3 (key a) (key b)))/\∃ q,w'=w.drewN q
theorem rX {D:Nat} {W0:World} {cv:Value} {key:K M->Int} (hc:Cmp D W0 cv key) (B:Nat) (hDB:D<=B) (k:K M) (v:Int) :
  ∀ (t:T (K M) Int) (p:Option Addr) (W:World),Srt key t.toL->t.size+1<=1000000->B<=W.heap.size->Below D W0 W->Tr W B t p ->
   Calls Tryz.prog 188 #[.pointer p,cv,.string (k).1,.int .i64 (v)] W (MakesL W B (insL key k v t.toL))
 | .nil,p,W,_,_,hB,_,h=>by
  obtain rfl:p=none:=h;go_enter Tryz.func188,Tryz.ntmps188;go_wp2_with fail;go_ret;exact⟨.nd k v .nil .nil,_,rfl,yP W B hB k v .nil .nil _ rfl none none rfl rfl,rfl,aD W _⟩
 | .nd a u l r,p,W,hso,hs,hB,hD,h=>by
  obtain⟨b,lp,rp,rfl,hb,hh,hl,hr⟩:=h;have hn:=eH hh;obtain⟨sl,sr,hla,har⟩:=hso.split;have hs':l.size+1+r.size+1<=1000000:=hs;obtain⟨g,lb,rfl,hent,hrun⟩:=id hc;have hcr:=hrun W k a hD;have HN:=qAq (qBq hn (qBq hl hr));obtain⟨c0,c1,c2,c3,c4⟩:=hn;have HC:=qAq (qBq c0 (qBq c1 (qBq c2 (qBq c3 c4))));have bel1:=(fun q=>aG W (q+1));by_cases h1:key k<key a
  ·have hneg:cmp3 (key k) (key a)<0:=nR.2 h1;generalize cmp3 (key k) (key a)=o at hcr hneg;go_enter Tryz.func188,Tryz.ntmps188;go_upto_region 5 with ((with_reducible refine hcr.mono ?_);rintro e x1 ⟨rfl,q,rfl⟩);have ih:=rX hc B hDB k v l lp (W.drewN (q+1)) sl (by omega) hB (hD.trans ((bel1 q).mono (Nat.le_trans hDB hB))) (HN.out.2.1.drewN (q+1));have hn0:=HN.out.1.later (aG W q);have hnd:=HN.out.1.later (bel1 q)
   go_region_held3 (fun w=>w.cell? ⟨b,3,none⟩=some (.pointer lp)/\w.cell? ⟨b,4,none⟩=some (.pointer rp)) (first|exact⟨hn0.c3,hn0.c4⟩ | exact⟨hnd.c3,hnd.c4⟩ | exact⟨hn1.c3,hn1.c4⟩ | exact⟨hn2.c3,hn2.c4⟩) (first
    | (go_at_call 188;(with_reducible refine ih.mono ?_);clear ih;rintro e x1 ⟨t1,p1,rfl,ht1,hL1,hb1⟩;have hb1:=aB (bel1 q) hb1;have hn1:=HN.out.1.later hb1;have bal:=bK b a u _ _ _ t1 r p1 rp B (by have:=bS hL1;rw[eR sl,T.len] at this;split at this <;> omega) x1 (Nat.le_trans hB hb1.size) hn1 ht1 (HN.out.2.2.later hb1))
    | (go_at_call 207;(with_reducible refine bal.mono ?_);clear bal;rintro e x2 ⟨t2,p2,rfl,ht2,hL2,hb2⟩;have hb2:=aB hb1 hb2;have hn2:=HN.out.1.later hb2))
   go_wp2_with fail;go_ret;exact⟨t2,p2,rfl,ht2,by rw[hL2,hL1,T.toL,aAl h1],hb2⟩
  ·by_cases h2:key a<key k
   ·have hneg:0<cmp3 (key k) (key a):=nS.2 h2;generalize cmp3 (key k) (key a)=o at hcr hneg;go_enter Tryz.func188,Tryz.ntmps188;go_upto_region 7 with ((with_reducible refine hcr.mono ?_);rintro e x1 ⟨rfl,q,rfl⟩);have ih:=rX hc B hDB k v r rp (W.drewN (q+1)) sr (by omega) hB (hD.trans ((bel1 q).mono (Nat.le_trans hDB hB))) (HN.out.2.2.drewN (q+1));have hn0:=HN.out.1.later (aG W q);have hnd:=HN.out.1.later (bel1 q)
    go_region_held3 (fun w=>w.cell? ⟨b,3,none⟩=some (.pointer lp)/\w.cell? ⟨b,4,none⟩=some (.pointer rp)) (first|exact⟨hn0.c3,hn0.c4⟩ | exact⟨hnd.c3,hnd.c4⟩ | exact⟨hn1.c3,hn1.c4⟩ | exact⟨hn2.c3,hn2.c4⟩) (first
     | (go_at_call 188;(with_reducible refine ih.mono ?_);clear ih;rintro e x1 ⟨t1,p1,rfl,ht1,hL1,hb1⟩;have hb1:=aB (bel1 q) hb1;have hn1:=HN.out.1.later hb1;have bal:=bK b a u _ _ _ l t1 lp p1 B (by have:=bS hL1;rw[eR sr,T.len] at this;split at this <;> omega) x1 (Nat.le_trans hB hb1.size) hn1 (HN.out.2.1.later hb1) ht1)
     | (go_at_call 207;(with_reducible refine bal.mono ?_);clear bal;rintro e x2 ⟨t2,p2,rfl,ht2,hL2,hb2⟩;have hb2:=aB hb1 hb2;have hn2:=HN.out.1.later hb2))
    go_wp2_with fail;go_ret;exact⟨t2,p2,rfl,ht2,by rw[hL2,hL1,T.toL,rK (fun p hp=>by have:=hla p hp;show key p.1<key k;omega),insL,if_neg (by omega),if_pos h2],hb2⟩
   ·have he:key a=key k:=(by omega);have hneg:cmp3 (key k) (key a)=0:=gM.2 he.symm;rw[hneg] at hcr;go_enter Tryz.func188,Tryz.ntmps188;go_upto_region 8 with ((with_reducible refine hcr.mono ?_);rintro e x1 ⟨rfl,q,rfl⟩);have hn0:=HN.out.1.later (aG W q);have hn1:=(fun o=>(HN.out.1.later (bel1 q)).later (aD (W.drewN (q+1)) o));have hn2:=(fun o=>HN.out.1.later ((aD W o)));have hn3:=fun o=>(HN.out.1.later (aG W q)).later (aD (W.drewN q) o)
    go_region_held3 (fun w=>w.cell? ⟨b,0,none⟩=some (Value.string (a).1)/\w.cell? ⟨b,2,none⟩=some (Value.int .i64 (((l.size+1+r.size:Nat):Int)))/\w.cell? ⟨b,3,none⟩=some (.pointer lp)/\w.cell? ⟨b,4,none⟩=some (.pointer rp)) (first|exact⟨hn0.c0,hn0.c2,hn0.c3,hn0.c4⟩ | exact⟨(hn1 _).c0,(hn1 _).c2,(hn1 _).c3,(hn1 _).c4⟩ | exact⟨(hn2 _).c0,(hn2 _).c2,(hn2 _).c3,(hn2 _).c4⟩ | exact⟨(hn3 _).c0,(hn3 _).c2,(hn3 _).c3,(hn3 _).c4⟩) (fail)
    go_wp2_with fail;go_ret
    exact⟨.nd a v l r,some ⟨W.heap.size,0,none⟩,rfl,yP (W.drewN (q+1)) B hB a v l r _ (by omega) lp rp (HN.out.2.1.drewN (q+1)) (HN.out.2.2.drewN (q+1)),by
     show l.toL++(a,v)::r.toL=insL key k v (l.toL++(a,u)::r.toL);rw[rK (fun p hp=>by have:=hla p hp;show key p.1<key k;omega),aFz he],aB (bel1 q) (aD (W.drewN (q+1)) _)⟩
variable {M:Nat}
theorem fT {D:Nat} {W0:World} {cv:Value} {key:K M->Int} (B:Nat) (hDB:D<=B) (k:K M) :
  ∀ (t:T (K M) Int) (p:Option Addr) (W:World),(t=.nil∨Cmp D W0 cv key)->Srt key t.toL->t.size<=1000000->B<=W.heap.size->Below D W0 W->Tr W B t p ->
   Calls Tryz.prog 190 #[.pointer p,cv,.string (k).1] W (MakesL W B (delL key k t.toL))
 | .nil,p,W,_,_,_,_,_,h=>by
  obtain rfl:p=none:=h;go_enter Tryz.func190,Tryz.ntmps190;go_wp2_with fail;go_ret;exact⟨.nil,none,rfl,rfl,rfl,.refl _ _⟩
 | .nd a u l r,p,W,hcc,hso,hs,hB,hD,h=>by
  obtain⟨b,lp,rp,rfl,hb,hh,hl,hr⟩:=h;have hn:=eH hh;obtain⟨sl,sr,hla,har⟩:=hso.split;have hs':l.size+1+r.size<=1000000:=hs;have hc:=hcc.resolve_left (fun e=>by cases e);obtain⟨g,lb,rfl,hent,hrun⟩:=id hc;have hcr:=hrun W k a hD;have HN:=qAq (qBq hn (qBq hl hr));obtain⟨c0,c1,c2,c3,c4⟩:=hn;have HC:=qAq (qBq c0 (qBq c1 (qBq c2 (qBq c3 c4))));have bel1:=(fun q=>aG W (q+1));by_cases h1:key k<key a
  ·have hneg:cmp3 (key k) (key a)<0:=nR.2 h1;generalize cmp3 (key k) (key a)=o at hcr hneg;go_enter Tryz.func190,Tryz.ntmps190;go_upto_region 5 with ((with_reducible refine hcr.mono ?_);rintro e x1 ⟨rfl,q,rfl⟩);have ih:=fT B hDB k l lp (W.drewN (q+1)) (.inr hc) sl (by omega) hB (hD.trans ((bel1 q).mono (Nat.le_trans hDB hB))) (HN.out.2.1.drewN (q+1));have hn0:=HN.out.1.later (aG W q);have hnd:=HN.out.1.later (bel1 q)
   go_region_held3 (fun w=>w.cell? ⟨b,3,none⟩=some (.pointer lp)/\w.cell? ⟨b,4,none⟩=some (.pointer rp)) (first|exact⟨hn0.c3,hn0.c4⟩ | exact⟨hnd.c3,hnd.c4⟩ | exact⟨hn1.c3,hn1.c4⟩ | exact⟨hn2.c3,hn2.c4⟩) (first
    | (go_at_call 190;(with_reducible refine ih.mono ?_);clear ih;rintro e x1 ⟨t1,p1,rfl,ht1,hL1,hb1⟩;have hb1:=aB (bel1 q) hb1;have hn1:=HN.out.1.later hb1;have bal:=bK b a u _ _ _ t1 r p1 rp B (by have:=bS hL1;have h3:=eS (key:=key) (k:=k) (L:=l.toL);rw[T.len] at h3;omega) x1 (Nat.le_trans hB hb1.size) hn1 ht1 (HN.out.2.2.later hb1))
    | (go_at_call 207;(with_reducible refine bal.mono ?_);clear bal;rintro e x2 ⟨t2,p2,rfl,ht2,hL2,hb2⟩;have hb2:=aB hb1 hb2;have hn2:=HN.out.1.later hb2))
   go_wp2_with fail;go_ret;exact⟨t2,p2,rfl,ht2,by rw[hL2,hL1,T.toL,aAm h1 har],hb2⟩
  ·by_cases h2:key a<key k
   ·have hneg:0<cmp3 (key k) (key a):=nS.2 h2;generalize cmp3 (key k) (key a)=o at hcr hneg;go_enter Tryz.func190,Tryz.ntmps190;go_upto_region 7 with ((with_reducible refine hcr.mono ?_);rintro e x1 ⟨rfl,q,rfl⟩);have ih:=fT B hDB k r rp (W.drewN (q+1)) (.inr hc) sr (by omega) hB (hD.trans ((bel1 q).mono (Nat.le_trans hDB hB))) (HN.out.2.2.drewN (q+1));have hn0:=HN.out.1.later (aG W q);have hnd:=HN.out.1.later (bel1 q)
    go_region_held3 (fun w=>w.cell? ⟨b,3,none⟩=some (.pointer lp)/\w.cell? ⟨b,4,none⟩=some (.pointer rp)) (first|exact⟨hn0.c3,hn0.c4⟩ | exact⟨hnd.c3,hnd.c4⟩ | exact⟨hn1.c3,hn1.c4⟩ | exact⟨hn2.c3,hn2.c4⟩) (first
     | (go_at_call 190;(with_reducible refine ih.mono ?_);clear ih;rintro e x1 ⟨t1,p1,rfl,ht1,hL1,hb1⟩;have hb1:=aB (bel1 q) hb1;have hn1:=HN.out.1.later hb1;have bal:=bK b a u _ _ _ l t1 lp p1 B (by have:=bS hL1;have h3:=eS (key:=key) (k:=k) (L:=r.toL);rw[T.len] at h3;omega) x1 (Nat.le_trans hB hb1.size) hn1 (HN.out.2.1.later hb1) ht1)
     | (go_at_call 207;(with_reducible refine bal.mono ?_);clear bal;rintro e x2 ⟨t2,p2,rfl,ht2,hL2,hb2⟩;have hb2:=aB hb1 hb2;have hn2:=HN.out.1.later hb2))
    go_wp2_with fail;go_ret;exact⟨t2,p2,rfl,ht2,by rw[hL2,hL1,T.toL,rL (fun p hp=>by have:=hla p hp;show key p.1<key k;omega),delL,if_neg (by omega)],hb2⟩
   ·have he:key a=key k:=(by omega);have hneg:cmp3 (key k) (key a)=0:=gM.2 he.symm;rw[hneg] at hcr;go_enter Tryz.func190,Tryz.ntmps190;go_upto_region 8 with ((with_reducible refine hcr.mono ?_);rintro e x1 ⟨rfl,q,rfl⟩);have glu:=aCa B l r lp rp (by omega) (W.drewN (q+1)) hB (HN.out.2.1.drewN (q+1)) (HN.out.2.2.drewN (q+1));have hn0:=HN.out.1.later (aG W q);have hnd:=HN.out.1.later (bel1 q)
    go_region_held3 (fun w=>w.cell? ⟨b,3,none⟩=some (.pointer lp)/\w.cell? ⟨b,4,none⟩=some (.pointer rp)) (first|exact⟨hn0.c3,hn0.c4⟩ | exact⟨hnd.c3,hnd.c4⟩ | exact⟨hn1.c3,hn1.c4⟩) (first
     | (go_at_call 208;(with_reducible refine glu.mono ?_);clear glu;rintro e x1 ⟨t1,p1,rfl,ht1,hL1,hb1⟩;have hb1:=aB (bel1 q) hb1;have hn1:=HN.out.1.later hb1))
    go_wp2_with fail;go_ret;exact⟨t1,p1,rfl,ht1,by rw[hL1,T.toL,rL (fun p hp=>by have:=hla p hp;show key p.1<key k;omega),aFA he],hb1⟩
def Has (M:Nat) (W:World) (B:Nat):Option Int->Option Addr->Prop
 | none,q=>q=none
 | some u,q=>∃ (b:Nat) (a:K M) (n:Int) (lp rp:Option Addr),q=some ⟨b,0,none⟩/\B<=b/\Nd W b a u n lp rp
theorem aEr {D:Nat} {W0:World} {cv:Value} {key:K M->Int} (B:Nat) (hDB:D<=B) (k:K M) (t:T (K M) Int) (p:Option Addr) (W:World) (hcc:t=.nil∨Cmp D W0 cv key) (hso:Srt key t.toL) (hs:t.size<=1000000) (hB:B<=W.heap.size) (hD:Below D W0 W) (h:Tr W B t p) :
  Calls Tryz.prog 206 #[.pointer p,cv,.string (k).1] W fun e w'=>(∃ q,w'=W.drewN q)/\∃ q,e=.returned (.tuple #[.pointer q,(Value.int .i64 ((below key k t.toL:Int)))]) /\
   Has M W B (getL key k t.toL) q:=by
 go_enter Tryz.func206,Tryz.ntmps206;go_wp2_with fail
 go_loopw [0,8] (fun pv iv w=>∃ (t':T (K M) Int) (p':Option Addr) (i':Nat),pv=.pointer p'/\iv=.int .i64 (i':Int)/\(∃ q,w=W.drewN q)/\Tr W B t' p'/\Srt key t'.toL/\i'+t'.size<=1000000/\below key k t.toL=i'+below key k t'.toL/\getL key k t.toL=getL key k t'.toL/\(t=.nil->t'=.nil)) (fun pv _ w=>szOf w pv)
 case atStart=>exact⟨t,p,0,rfl,rfl,⟨0,rfl⟩,h,hso,by omega,by omega,rfl,id⟩
 obtain⟨t',p',i',rfl,rfl,⟨q0,rfl⟩,ht,hso',hs',hbe,hge,hz⟩:=hrel;have hsz:=gQ (ht.drewN q0);cases t' with
 | nil =>
  obtain rfl:p'=none:=ht;go_wp2_with fail;go_ret2;refine⟨⟨q0,rfl⟩,none,by first | (rw[hbe];simp[T.toL,below]) | simp[T.toL,below],?_⟩
  first | (rw[hge];rfl) | rfl
 | nd a u l r =>
  obtain⟨b,lp,rp,rfl,hb,hh,hl,hr⟩:=ht;have hn:=eH hh;obtain⟨sl,sr,hla,har⟩:=hso'.split;have HN:=qAq hn;have cl:=(fun q=>bB l lp B (W.drewN q) (hl.drewN q));have hs2:i'+(l.size+1+r.size)<=1000000:=hs';have szl:=(fun q=>gQ (hl.drewN q));have szr:=(fun q=>gQ (hr.drewN q));have hll:=T.len l;have hnn:t≠.nil:=(fun e=>by have:=hz e;cases this);have hc:=hcc.resolve_left hnn;obtain⟨g,lb,rfl,hent,hrun⟩:=id hc;have hcr:=hrun (W.drewN q0) k a (hD.trans ((aG W q0).mono (Nat.le_trans hDB hB)));have HSZ:=qAq (qBq hsz (qBq szl szr));have hszn:(T.nd a u l r).size=l.size+1+r.size:=rfl;obtain⟨zl,hzl⟩:∃ zl,l.size=zl:=⟨_,rfl⟩;rw[hzl] at cl hll hs2;have c0:=(fun q=>(hn.later (aG W q)).c0);have c3:=(fun q=>(hn.later (aG W q)).c3);have c4:=(fun q=>(hn.later (aG W q)).c4);clear hn hsz szl szr hh;by_cases h1:key k<key a
  ·have hneg:cmp3 (key k) (key a)<0:=nR.2 h1;generalize cmp3 (key k) (key a)=o at hcr hneg
   go_wp2_with (first
    | (go_at_call 187;(with_reducible refine (cl _).mono ?_);rintro e x2 ⟨rfl,rfl⟩)
    | ((with_reducible refine hcr.mono ?_);rintro e x1 ⟨rfl,q,rfl⟩))
   rw[hszn] at HSZ;exact⟨⟨l,lp,i',rfl,rfl,⟨_,rfl⟩,hl,sl,by omega,by rw[hbe,T.toL,uG (by omega)],by rw[hge,T.toL,aAn h1 har],fun e=>absurd e hnn⟩,by rw[HSZ.out.1,HSZ.out.2.1];omega⟩
  ·by_cases h2:key a<key k
   ·have hneg:0<cmp3 (key k) (key a):=nS.2 h2;generalize cmp3 (key k) (key a)=o at hcr hneg
    go_wp2_with (first
     | (go_at_call 187;(with_reducible refine (cl _).mono ?_);rintro e x2 ⟨rfl,rfl⟩)
     | ((with_reducible refine hcr.mono ?_);rintro e x1 ⟨rfl,q,rfl⟩))
    rw[hszn] at HSZ;exact⟨⟨r,rp,i'+zl+1,rfl,rfl,⟨_,rfl⟩,hr,sr,by omega,by rw[hbe,T.toL,nT (fun p hp=>by have:=hla p hp;show key p.1<key k;omega),below,if_pos h2,hll];omega,by rw[hge,T.toL,rM (fun p hp=>by have:=hla p hp;show key p.1<key k;omega),getL,if_neg (by omega)],fun e=>absurd e hnn⟩,by rw[HSZ.out.1,HSZ.out.2.2];omega⟩
   ·have he:key a=key k:=(by omega);have hneg:cmp3 (key k) (key a)=0:=gM.2 he.symm;rw[hneg] at hcr
    go_wp2_with (first
     | (go_at_call 187;(with_reducible refine (cl _).mono ?_);rintro e x2 ⟨rfl,rfl⟩)
     | ((with_reducible refine hcr.mono ?_);rintro e x1 ⟨rfl,q,rfl⟩))
    go_ret2;refine⟨⟨_,rfl⟩,some ⟨b,0,none⟩,?_,?_⟩
    ·rw[hbe,T.toL,nT (fun p hp=>by have:=hla p hp;show key p.1<key k;omega),below,if_neg (by omega),hll];rfl
    ·rw[hge,T.toL,rM (fun p hp=>by have:=hla p hp;show key p.1<key k;omega),aFB he];exact⟨b,a,_,lp,rp,rfl,hb,HN.out⟩
