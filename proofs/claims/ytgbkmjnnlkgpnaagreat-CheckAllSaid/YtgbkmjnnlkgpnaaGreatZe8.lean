import Derived.Test.YtgbkmjnnlkgpnaaGreatZe6
import Derived.Test.YtgbkmjnnlkgpnaaGreatZe1
import Derived.Test.YtgbkmjnnlkgpnaaGreatZe7
import Derived.Defers
import Derived.Deep.RegionLaw
import Derived.Deep.CutRange
import Derived.Shelf.Abstract
import Derived.Recover
set_option maxHeartbeats 1000000
set_option maxRecDepth 100000
namespace Go.Proofs.YtgbkmjnnlkgpnaaGreat.Co.S
open Go Go.RowKit Go.Shelf Go.Proofs Go.Proofs.YtgbkmjnnlkgpnaaGreat Go.Proofs.YtgbkmjnnlkgpnaaGreat.Co
variable {M:Nat}
attribute [local go_sem] aEs aEt
def mtT (ty:TypeId):Bool:=ty==152 || ty==42 || ty==115 || ty==3 || ty==54 || ty==95 || ty==102 || ty==22 || ty==30 || ty==70 || ty==87 || ty==33
def Ty (W:World) (mb:Nat):Prop:=∃ cs ty,W.heap[mb]?=some (.cells cs ty)/\mtT ty=true
theorem Ty.of {W W':World} {mb:Nat} (h:Ty W mb) (hb:W'.heap[mb]?=W.heap[mb]?):Ty W' mb:=by
 obtain⟨cs,ty,h1,h2⟩:=h;exact⟨cs,ty,hb.trans h1,h2⟩
theorem Ty.set {W:World} {mb:Nat} (h:Ty W mb) (j:Nat) (v:Value):Ty (W.setCell ⟨mb,j,none⟩ v) mb:=by
 obtain⟨cs,ty,h1,h2⟩:=h;exact⟨_,ty,heap_setCell_same W mb j cs ty v h1,h2⟩
structure Mp (D:Nat) (W0:World) (cv:Value) (key:K M->Int) (mb:Nat) (L:List (K M×Int)) (W:World):Prop where
 dm:D<=mb
 c0:W.cell? ⟨mb,2,none⟩=some (cv)
 rt:∃ t p,W.cell? ⟨mb,3,none⟩=some (.pointer p)/\Tr W (mb+1) t p/\t.toL=L
 fz:∀ j,W.frozen? ⟨mb,j,none⟩=false
 srt:Srt key L
 bel:Below D W0 W
 ty:Ty W mb
theorem Mp.lt {D:Nat} {W0:World} {cv:Value} {key:K M->Int} {mb:Nat} {L:List (K M×Int)} {W:World} (h:Mp D W0 cv key mb L W):mb<W.heap.size:=World.block_lt_of_cell? W ⟨mb,2,none⟩ h.c0
theorem Mp.later {D:Nat} {W0:World} {cv:Value} {key:K M->Int} {mb:Nat} {L:List (K M×Int)} {W W':World} (h:Mp D W0 cv key mb L W) (hb:Below W.heap.size W W'):Mp D W0 cv key mb L W':=by
 have hbl:=hb.block mb h.lt;obtain⟨t,p,h1,h2,h3⟩:=h.rt;exact⟨h.dm,(World.cell?_of_block (w:=W) hbl).trans h.c0,⟨t,p,(World.cell?_of_block (w:=W) hbl).trans h1,h2.later hb,h3⟩,fun j=>(World.frozen?_of_block (w:=W) hbl).trans (h.fz j),h.srt,h.bel.trans (hb.mono (by have:=h.lt;have:=h.dm;omega)),h.ty.of hbl⟩
theorem new_any (g:Nat) (lb:Array Value) (W:World):Calls Tryz.prog 162 #[(.func (.func g) #[] lb)] W fun e w' =>
  e=.returned (.pointer (some ⟨W.heap.size,0,none⟩))/\w'.cell? ⟨W.heap.size,0,none⟩=some (.func (.func g) #[] lb)/\w'.cell? ⟨W.heap.size,1,none⟩=some (.pointer none)/\Below W.heap.size W w':=by
 go_enter Tryz.func162,Tryz.ntmps162
 go_wp2
 go_ret;have hh:=qOq W (.cells #[(.func (.func g) #[] lb),.pointer none] 148);exact⟨rfl,aA hh 0,aA hh 1,aC W _⟩
structure Chm (mb:Nat) (W W':World):Prop where
 chg:Chg (fun b=>b=mb) W W'
 keep:∀ j,j≠2->j≠3->W'.cell? ⟨mb,j,none⟩=W.cell? ⟨mb,j,none⟩
theorem Chm.trans {mb:Nat} {A B C:World} (h:Chm mb A B) (k:Chm mb B C):Chm mb A C:=⟨h.chg.trans k.chg (fun _ _ x=>x) (fun _ _ x=>x),fun j h2 h3=>(k.keep j h2 h3).trans (h.keep j h2 h3)⟩
theorem Chm.of_below {mb:Nat} {A B:World} (hlt:mb<A.heap.size) (h:Below A.heap.size A B):Chm mb A B:=⟨Chg.of_below h,fun _ _ _=>World.cell?_of_block (w:=A) (h.block mb hlt)⟩
theorem xA (w:World):CallsD Tryz.prog 176 #[] .returning w fun e u' w'=>e=.returned (.tuple #[])/\u'=.returning/\w'=w:=by
 refine callsD_of_wpS Tryz.func176 rfl fun c₀ cs hu=>?_
 apply wpS_region;cases c₀
 simp_all [wpOpsS,go_sem,recoverD,Tryz.ntmps176,bodyPostS,results,Tryz.results176]
theorem xB (w:World):CallsD Tryz.prog 179 #[] .returning w fun e u' w'=>e=.returned (.tuple #[])/\u'=.returning/\w'=w:=by
 refine callsD_of_wpS Tryz.func179 rfl fun c₀ cs hu=>?_
 apply wpS_region;cases c₀
 simp_all [wpOpsS,go_sem,recoverD,Tryz.ntmps179,bodyPostS,results,Tryz.results179]
theorem xC (w:World):CallsD Tryz.prog 174 #[] .returning w fun e u' w'=>e=.returned (.tuple #[])/\u'=.returning/\w'=w:=by
 refine callsD_of_wpS Tryz.func174 rfl fun c₀ cs hu=>?_
 apply wpS_region;cases c₀
 simp_all [wpOpsS,go_sem,recoverD,Tryz.ntmps174,bodyPostS,results,Tryz.results174]
def Laid (mb:Nat) (L:List (K M×Int)) (W W':World):Prop:=∃ t p,W'.cell? ⟨mb,3,none⟩=some (.pointer p)/\Tr W' (mb+1) t p/\t.toL=L/\Chm mb W W'/\Ty W' mb
theorem aAZ {mb:Nat} {L:List (K M×Int)} {W x:World} {t:T (K M) Int} {p q:Option Addr} (hty:Ty W mb) (hb:Below W.heap.size W x) (hc:x.cell? ⟨mb,3,none⟩=some (.pointer q)) (ht:Tr x (mb+1) t p) (hL:t.toL=L) :
  Laid mb L W (x.setCell ⟨mb,3,none⟩ (.pointer p)):=by
 have hlt:mb<W.heap.size:=(by obtain⟨_,_,h1,_⟩:=hty;exact lt_of_heap h1);refine⟨t,p,World.cell?_setCell_same _ _ _ hc,Tr.of (fun b h1 _=>Below.heap_setCell _ _ _ b (by intro e;simp at e;omega)) ht,hL,⟨(Chg.of_below (S:=fun b=>b=mb) hb).setCell (fun _=>rfl) _,fun j _ hj=>?_⟩,(hty.of (hb.block mb hlt)).set 3 _⟩;rw[World.cell?_setCell_other _ _ _ _ (fun e=>hj (by cases e;rfl))];exact World.cell?_of_block (w:=W) (hb.block mb hlt)
theorem Laid.mp {D:Nat} {W0:World} {cv:Value} {key:K M->Int} {mb:Nat} {L L':List (K M×Int)} {W W':World} (h:Mp D W0 cv key mb L W) (hl:Laid mb L' W W') (hs:Srt key L') (hf:∀ j,W'.frozen? ⟨mb,j,none⟩=false)
  (h0:W'.cell? ⟨mb,2,none⟩=some (cv)):Mp D W0 cv key mb L' W':=by
 obtain⟨t,p,h1,h2,h3,h4,h5⟩:=hl;refine⟨h.dm,h0,⟨t,p,h1,h2,h3⟩,hf,hs,h.bel.trans (h4.chg.below (by have:=h.lt;have:=h.dm;omega) (fun b hb e=>by have:=h.dm;omega)),h5⟩
theorem aFP {D:Nat} {W0:World} {cv:Value} {key:K M->Int} (hc:Cmp D W0 cv key) (mb:Nat) (L:List (K M×Int)) (k:K M) (v:Int) (W:World) (hL:L.length+1<=1000000) (h:Mp D W0 cv key mb L W) :
  Calls Tryz.prog 159 #[.pointer (some ⟨mb,2,none⟩),.string (k).1,.int .i64 (v)] W fun e w'=>e=.returned (.bool (bP key k L).isNone)/\Mp D W0 cv key mb (insL key k v L) w'/\Chm mb W w':=by
 obtain⟨g,lb,rfl,hent0,hrun⟩:=id hc;have hlt:=h.lt;obtain⟨t,p,c1,ht,hl⟩:=h.rt;have c0:=h.c0;have fz:=h.fz 3;have FZ:=qAq h.fz;have HTY:=qAq h.ty;have hs:t.size=L.length:=cT hl;have cn:=count_any t p (mb+1) W ht;have hso:Srt key t.toL:=hl▸h.srt;have pt:=(fun q=>put_any hc (mb+1) (by have:=h.dm;omega) k v t p (W.drewN q) hso (by omega) hlt (h.bel.trans ((below_drewN W q).mono (by have:=h.dm;omega))) (ht.drewN q));rw[hl] at pt;go_enter_defers Tryz.func159,Tryz.ntmps159;go_upto_region 5 with (go_at_call 177;(with_reducible refine cn.mono ?_);rintro e x1 ⟨rfl,hx1⟩;subst x1);have hent:=enters_of Tryz.func178 (by kernel_rfl) rfl
 go_cut [] from 22 to 35 (fun wx=>Hid (Laid mb (insL key k v L) W wx/\(∀ j,wx.frozen? ⟨mb,j,none⟩=false)/\wx.cell? ⟨mb,2,none⟩=some ((.func (.func g) #[] lb))))
 case first =>
  refine aAY ?_
  go_region_law (refine dD hent [.pointer p,(.func (.func g) #[] lb),(Value.string (k).1),(Value.int .i64 (v))] (by simp[Act.eval]) ?_;refine (pt _).mono ?_;rintro e x2 ⟨t2,p2,rfl,ht2,hL2,hb2⟩;have hW2:=aB (below_drewN W _) hb2;have cc2:=(World.cell?_of_block (w:=W) (hW2.block mb hlt)).trans c1;have cc0:=(World.cell?_of_block (w:=W) (hW2.block mb hlt)).trans c0;have ff2:=(World.frozen?_of_block (w:=W) (hW2.block mb hlt)).trans fz;have FF2:=qAq (fun j=>(World.frozen?_of_block (a:=⟨mb,j,none⟩) (w:=W) (hW2.block mb hlt)).trans (FZ.out j));have HL:=qAq (aAZ HTY.out hW2 cc2 ht2 hL2);refine⟨_,rfl,?_⟩)
  all_goals (go_wp2_with fail;go_meet;exact qAq ⟨HL.out,fun j=>by rw[World.frozen?_setCell];exact FF2.out j,by rw[World.cell?_setCell_other _ _ _ _ (by simp)];exact cc0⟩)
 obtain⟨hld,hfw,h0w⟩:=hcut.out;have hmp:=hld.mp h h.srt.ins hfw h0w;obtain⟨t2,p2,d1,d2,d3,d4,_⟩:=hld;have cn2:=count_any t2 p2 (mb+1) wc d2;have hs2:t2.size=L.length+(if (bP key k L).isSome then 0 else 1):=(by rw[cT d3,gF h.srt]);rw[hs2] at cn2;have HF:=qAq (qBq hmp d4);clear hmp d4 d2 hcut;cases hg:bP key k L with
 | none =>
  rw[hg] at cn2;go_wp2_with (go_at_call 177;(with_reducible refine cn2.mono ?_);rintro e x3 ⟨rfl,hx3⟩;subst x3);refine leaves_cons (f:=176) (args:=#[]) (by simp) (by simp[go_sem]) ?_;refine (xA _).mono ?_;rintro e u' w'' ⟨rfl,rfl,rfl⟩;exact⟨_,results_tmp rfl _ _ _,by simp[hg];try omega,HF.out.1,HF.out.2⟩
 | some u =>
  rw[hg] at cn2;go_wp2_with (go_at_call 177;(with_reducible refine cn2.mono ?_);rintro e x3 ⟨rfl,hx3⟩;subst x3);refine leaves_cons (f:=176) (args:=#[]) (by simp) (by simp[go_sem]) ?_;refine (xA _).mono ?_;rintro e u' w'' ⟨rfl,rfl,rfl⟩;exact⟨_,results_tmp rfl _ _ _,by simp[hg];try omega,HF.out.1,HF.out.2⟩
variable {M:Nat}
attribute [local go_sem] aEs aEt
theorem aFQ {D:Nat} {W0:World} {cv:Value} {key:K M->Int} (mb:Nat) (L:List (K M×Int)) (hcc:L=[]∨Cmp D W0 cv key) (k:K M) (W:World) (hL:L.length<=1000000) (h:Mp D W0 cv key mb L W) :
  Calls Tryz.prog 160 #[.pointer (some ⟨mb,2,none⟩),.string (k).1] W fun e w'=>e=.returned (.bool (bP key k L).isSome)/\Mp D W0 cv key mb (dL key k L) w'/\Chm mb W w':=by
 have hlt:=h.lt;obtain⟨t,p,c1,ht,hl⟩:=h.rt;have c0:=h.c0;have fz:=h.fz 3;have FZ:=qAq h.fz;have HTY:=qAq h.ty;have hs:t.size=L.length:=cT hl;have cn:=count_any t p (mb+1) W ht;have hso:Srt key t.toL:=hl▸h.srt;have hct:t=.nil∨Cmp D W0 cv key:=hcc.imp (fun e=>T.toL_nil (hl.trans e)) id;have pt:=(fun q=>jB (mb+1) (by have:=h.dm;omega) k t p (W.drewN q) hct hso (by omega) hlt (h.bel.trans ((below_drewN W q).mono (by have:=h.dm;omega))) (ht.drewN q));rw[hl] at pt;go_enter_defers Tryz.func160,Tryz.ntmps160;go_upto_region 5 with (go_at_call 177;(with_reducible refine cn.mono ?_);rintro e x1 ⟨rfl,hx1⟩;subst x1);have hent:=enters_of Tryz.func180 (by kernel_rfl) rfl
 go_cut [] from 13 to 25 (fun wx=>Hid (Laid mb (dL key k L) W wx/\(∀ j,wx.frozen? ⟨mb,j,none⟩=false)/\wx.cell? ⟨mb,2,none⟩=some (cv)))
 case first =>
  refine aAY ?_
  go_region_law (refine dD hent [.pointer p,cv,(Value.string (k).1)] (by simp[Act.eval]) ?_;refine (pt _).mono ?_;rintro e x2 ⟨t2,p2,rfl,ht2,hL2,hb2⟩;have hW2:=aB (below_drewN W _) hb2;have cc2:=(World.cell?_of_block (w:=W) (hW2.block mb hlt)).trans c1;have cc0:=(World.cell?_of_block (w:=W) (hW2.block mb hlt)).trans c0;have ff2:=(World.frozen?_of_block (w:=W) (hW2.block mb hlt)).trans fz;have FF2:=qAq (fun j=>(World.frozen?_of_block (a:=⟨mb,j,none⟩) (w:=W) (hW2.block mb hlt)).trans (FZ.out j));have HL:=qAq (aAZ HTY.out hW2 cc2 ht2 hL2);refine⟨_,rfl,?_⟩)
  all_goals (go_wp2_with fail;go_meet;exact qAq ⟨HL.out,fun j=>by rw[World.frozen?_setCell];exact FF2.out j,by rw[World.cell?_setCell_other _ _ _ _ (by simp)];exact cc0⟩)
 obtain⟨hld,hfw,h0w⟩:=hcut.out;have hmp:=hld.mp h h.srt.del hfw h0w;obtain⟨t2,p2,d1,d2,d3,d4,_⟩:=hld;have cn2:=count_any t2 p2 (mb+1) wc d2;have hs2:t2.size+(if (bP key k L).isSome then 1 else 0)=L.length:=(by rw[cT d3,gG]);have HF:=qAq (qBq hmp d4);obtain⟨z2,hz2⟩:∃ z2,t2.size=z2:=⟨_,rfl⟩;rw[hz2] at cn2 hs2;obtain⟨zl,hzl⟩:∃ zl,L.length=zl:=⟨_,rfl⟩;rw[hzl] at hs2 ⊢;clear hmp d4 d2 hcut;cases hg:bP key k L with
 | none =>
  rw[hg] at hs2;obtain rfl:z2=zl:=(by simpa using hs2);go_wp2_with (go_at_call 177;(with_reducible refine cn2.mono ?_);rintro e x3 ⟨rfl,hx3⟩;subst x3);refine leaves_cons (f:=179) (args:=#[]) (by simp) (by simp[go_sem]) ?_;refine (xB _).mono ?_;rintro e u' w'' ⟨rfl,rfl,rfl⟩;exact⟨_,results_tmp rfl _ _ _,by simp[hg],HF.out.1,HF.out.2⟩
 | some u =>
  rw[hg] at hs2;obtain rfl:zl=z2+1:=(by simp at hs2;omega);go_wp2_with (go_at_call 177;(with_reducible refine cn2.mono ?_);rintro e x3 ⟨rfl,hx3⟩;subst x3);refine leaves_cons (f:=179) (args:=#[]) (by simp) (by simp[go_sem]) ?_;refine (xB _).mono ?_;rintro e u' w'' ⟨rfl,rfl,rfl⟩;exact⟨_,results_tmp rfl _ _ _,by simp[hg];try omega,HF.out.1,HF.out.2⟩
theorem aEu {D:Nat} {W0:World} {cv:Value} {key:K M->Int} (mb:Nat) (L:List (K M×Int)) (W:World) (h:Mp D W0 cv key mb L W) :
  Calls Tryz.prog 181 #[.pointer (some ⟨mb,2,none⟩)] W fun e w'=>w'=W/\∃ t p,e=.returned (.pointer p)/\Tr W (mb+1) t p/\t.toL=L:=by
 obtain⟨t,p,c1,ht,hl⟩:=h.rt;go_enter Tryz.func181,Tryz.ntmps181
 go_wp2
 go_ret;exact⟨rfl,t,p,rfl,ht,hl⟩
theorem aFR {D:Nat} {W0:World} {cv:Value} {key:K M->Int} (mb:Nat) (L:List (K M×Int)) (W:World) (h:Mp D W0 cv key mb L W) :
  Calls Tryz.prog 161 #[.pointer (some ⟨mb,2,none⟩)] W fun e w'=>e=.returned (.int .i64 ((L.length:Int)))/\w'=W:=by
 have ht:=aEu mb L W h;go_enter Tryz.func161,Tryz.ntmps161
 go_wp2_with (first
  | (go_at_call 181;(with_reducible refine ht.mono ?_);rintro e x1 ⟨hx1,t,p,rfl,htr,hl⟩;subst x1;have cn:=count_any t p (mb+1) W htr;rw[cT hl] at cn)
  | (go_at_call 177;(with_reducible refine cn.mono ?_);rintro e x1 ⟨rfl,hx1⟩;subst x1))
 go_ret;exact⟨rfl,rfl⟩
theorem Has.undrew {W:World} {B:Nat}:∀ {o:Option Int} {q:Option Addr},Has M W.drew B o q->Has M W B o q
 | none,_,h=>h
 | some _,_,⟨b,a,n,lp,rp,h1,h2,h3⟩=>⟨b,a,n,lp,rp,h1,h2,⟨h3.c0,h3.c1,h3.c2,h3.c3,h3.c4⟩⟩
theorem aCs {D:Nat} {W0:World} {cv:Value} {key:K M->Int} (mb:Nat) (L:List (K M×Int)) (hcc:L=[]∨Cmp D W0 cv key) (k:K M) (W:World) (hL:L.length<=1000000) (h:Mp D W0 cv key mb L W) :
  Calls Tryz.prog 175 #[.pointer (some ⟨mb,2,none⟩),.string (k).1] W fun e w'=>(∃ q,w'=W.drewN q)/\∃ q,e=.returned (.tuple #[.pointer q,(Value.int .i64 ((below key k L:Int)))])/\Has M W (mb+1) (bP key k L) q:=by
 have hlt:=h.lt;obtain⟨t,p,c1,ht,hl⟩:=h.rt;have c0:=h.c0;have hso:Srt key t.toL:=hl▸h.srt;have hct:t=.nil∨Cmp D W0 cv key:=hcc.imp (fun e=>T.toL_nil (hl.trans e)) id;have fn:=aEr (mb+1) (by have:=h.dm;omega) k t p W.drew hct hso (by have:=cT hl;omega) hlt (h.bel.trans ((Below.refl _ W).drew.mono (by have:=h.dm;omega))) ht.drew;rw[hl] at fn;go_enter Tryz.func175,Tryz.ntmps175;go_wp2_with fail
 go_region_held3 (fun w=>w.cell? ⟨mb,2,none⟩=some (cv)/\w.cell? ⟨mb,3,none⟩=some (.pointer p)) (first|exact⟨c0,c1⟩) (first
  | (go_at_call 196;(with_reducible refine fn.mono ?_);rintro e x1 ⟨⟨q,rfl⟩,r,rfl,hh⟩))
 go_wp2_with fail;go_ret2;exact⟨⟨_,rfl⟩,r,rfl,hh.undrew⟩
def aHA:Option Int->Value
 | none=>(Value.int .i64 0)
 | some u=>(Value.int .i64 (u))
theorem aFS {D:Nat} {W0:World} {cv:Value} {key:K M->Int} (mb:Nat) (L:List (K M×Int)) (hcc:L=[]∨Cmp D W0 cv key) (k:K M) (W:World) (hL:L.length<=1000000) (h:Mp D W0 cv key mb L W) :
  Calls Tryz.prog 158 #[.pointer (some ⟨mb,2,none⟩),.string (k).1] W fun e w'=>e=.returned (.tuple #[aHA (bP key k L),.bool (bP key k L).isSome])/\Below W.heap.size W w':=by
 have fn:=aCs mb L hcc k W hL h;go_enter_defers Tryz.func158,Tryz.ntmps158;cases hg:bP key k L with
 | none =>
  rw[hg] at fn;go_wp2_with (go_at_call 175;(with_reducible refine fn.mono ?_);rintro e x1 ⟨⟨q,hx1⟩,r,rfl,hr⟩;have hb1:Below W.heap.size W x1:=hx1▸below_drewN W q;clear hx1;obtain rfl:r=none:=hr);refine leaves_cons (f:=174) (args:=#[]) (by simp) (by simp[go_sem]) ?_;refine (xC _).mono ?_;rintro e u' w'' ⟨rfl,rfl,rfl⟩;exact⟨_,results_tmp2 rfl _ _ _,rfl,aB hb1 (aC _ _)⟩
 | some u =>
  rw[hg] at fn;go_wp2_with (go_at_call 175;(with_reducible refine fn.mono ?_);rintro e x1 ⟨⟨q,hx1⟩,r,rfl,hr⟩;subst x1;obtain⟨b,a,n,lp,rp,rfl,_,hn⟩:=hr;have c1:=(hn.later (below_drewN W q)).c1;clear hn);refine leaves_cons (f:=174) (args:=#[]) (by simp) (by simp[go_sem]) ?_;refine (xC _).mono ?_;rintro e u' w'' ⟨rfl,rfl,rfl⟩;exact⟨_,results_tmp2 rfl _ _ _,rfl,below_drewN W q⟩
variable {M:Nat}
theorem aFT (a b:ByteArray) (w:World):Calls Tryz.prog 182 #[.string a,.string b] w fun e w'=>e=.returned (.int .i64 (Lib.compareBytes a.data.toList b.data.toList))/\w'=w:=by
 go_enter Tryz.func182,Tryz.ntmps182
 go_wp2
 rw[run_callFunc_extern Tryz.func199 (by kernel_rfl) (by kernel_rfl) (by kernel_rfl) (e:=Extern.BytealgCompare.compare) (by kernel_rfl),Lib.run_compareString];simp only[Result.andThen];rw[Oper.upon_value]
 go_wp2
 go_ret;exact⟨rfl,rfl⟩
theorem qN (a b:ByteArray) (w:World):Calls Tryz.prog 163 #[.string a,.string b] w fun e w'=>e=.returned (.int .i64 (Lib.compareBytes a.data.toList b.data.toList))/\w'=w:=by
 have h:=aFT a b w;go_enter Tryz.func163,Tryz.ntmps163;go_wp2_with (go_at_call 182;(with_reducible refine h.mono ?_);rintro e w' ⟨rfl,hw⟩;subst hw);go_ret;exact⟨rfl,rfl⟩
abbrev nK:Value:=.func (.func 163) #[] #[]
theorem aEv (D:Nat) (W0:World):Cmp (M:=M) D W0 nK keyOf :=
 ⟨163,#[],rfl,enters_of Tryz.func163 (by kernel_rfl) rfl,fun w a b _=>(qN a.1 b.1 w).mono (by
  rintro e w' ⟨rfl,rfl⟩;rw[rW];exact⟨rfl,0,rfl⟩)⟩
structure Dm (W0:World) (mb:Nat) (L:List (K M×Int)) (W:World):Prop where
 mp:∃ cv,Mp 0 W0 cv keyOf mb L W/\(L=[]∨cv=nK)
 pos:∀ p∈L,1<=p.2/\p.2<=1000000
 len:L.length<=999999
theorem Dm.lt {W0 W:World} {mb:Nat} {L:List (K M×Int)} (h:Dm W0 mb L W):mb<W.heap.size:=by obtain⟨cv,h1,_⟩:=h.mp;exact h1.lt
theorem Dm.later {W0 W W':World} {mb:Nat} {L:List (K M×Int)} (h:Dm W0 mb L W) (hb:Below W.heap.size W W'):Dm W0 mb L W':=by
 obtain⟨cv,h1,h2⟩:=h.mp;exact⟨⟨cv,h1.later hb,h2⟩,h.pos,h.len⟩
theorem Dm.bel {W0 W:World} {mb:Nat} {L:List (K M×Int)} (h:Dm W0 mb L W):Below 0 W0 W:=by obtain⟨cv,h1,_⟩:=h.mp;exact h1.bel
def tm (s:K M) (L:List (K M×Int)):Int:=(bP keyOf s L).getD 0
def has (s:K M) (L:List (K M×Int)):Bool:=(bP keyOf s L).isSome
theorem aEw (s:K M) (L:List (K M×Int)):aHA (bP keyOf s L)=(Value.int .i64 (tm s L)):=by
 unfold tm;cases bP keyOf s L <;> rfl
theorem get_any {W0 W:World} {mb:Nat} {L:List (K M×Int)} (s:K M) (h:Dm W0 mb L W) :
  Calls Tryz.prog 158 #[.pointer (some ⟨mb,2,none⟩),.string s.1] W fun e w'=>e=.returned (.tuple #[(Value.int .i64 (tm s L)),.bool (has s L)])/\Below W.heap.size W w':=by
 obtain⟨cv,h1,h2⟩:=h.mp
 have:=aFS mb L (h2.imp id (fun e=>e▸aEv 0 W0)) s W (by have:=h.len;omega) h1
 rw[aEw] at this;exact this
theorem len_any {W0 W:World} {mb:Nat} {L:List (K M×Int)} (h:Dm W0 mb L W) :
  Calls Tryz.prog 161 #[.pointer (some ⟨mb,2,none⟩)] W fun e w'=>e=.returned (.int .i64 ((L.length:Int)))/\w'=W:=by
 obtain⟨cv,h1,h2⟩:=h.mp;exact aFR mb L W h1
theorem xD {s:K M} {v:Int}:∀ {L:List (K M×Int)},bP keyOf s L=some v->∃ p∈L,p.2=v
 | [],h=>by simp[bP] at h
 | (a,w)::r,h=>by
  rw[bP] at h;split at h
  ·cases h;exact⟨(a,v),by simp,rfl⟩
  ·obtain⟨p,hp,e⟩:=xD h;exact⟨p,by simp[hp],e⟩
theorem Dm.tm_bd {W0 W:World} {mb:Nat} {L:List (K M×Int)} (h:Dm W0 mb L W) (s:K M):0<=tm s L/\tm s L<=1000000/\(has s L=true↔1<=tm s L):=by
 unfold tm has;cases hg:bP keyOf s L with
 | none=>simp
 | some v =>
  obtain⟨p,hp,e⟩:=xD hg
  have:=h.pos p hp
  rw[e] at this
  simp;omega
theorem del_any {W0 W:World} {mb:Nat} {L:List (K M×Int)} (s:K M) (h:Dm W0 mb L W) :
  Calls Tryz.prog 160 #[.pointer (some ⟨mb,2,none⟩),.string s.1] W fun e w'=>e=.returned (.bool (has s L))/\Dm W0 mb (dL keyOf s L) w'/\Chm mb W w':=by
 obtain⟨cv,h1,h2⟩:=h.mp;refine (aFQ mb L (h2.imp id (fun e=>e▸aEv 0 W0)) s W (by have:=h.len;omega) h1).mono ?_;rintro e w' ⟨rfl,m,c⟩;refine⟨rfl,⟨⟨cv,m,h2.imp (fun e=>by rw[e];rfl) id⟩,fun p hp=>h.pos p (pV hp),?_⟩,c⟩
 have:=gG (key:=keyOf) (k:=s) (L:=L)
 have:=h.len
 omega
theorem xE {s:K M} {v:Int} {Q:Int->Prop} (hv:Q v):∀ {L:List (K M×Int)},(∀ p∈L,Q p.2)->∀ p∈insL keyOf s v L,Q p.2
 | [],_,p,hp=>by rw[insL,List.mem_singleton] at hp;rw[hp];exact hv
 | (a,w)::r,h,p,hp=>by
  rw[insL] at hp;split at hp
  ·rcases List.mem_cons.1 hp with rfl|hp
   ·exact hv
   ·exact h p hp
  ·split at hp
   ·rcases List.mem_cons.1 hp with rfl|hp
    ·exact h (a,w) (by simp)
    ·exact xE hv (fun p hp=>h p (by simp[hp])) p hp
   ·rcases List.mem_cons.1 hp with rfl|hp
    ·exact hv
    ·exact h p (by simp[hp])
theorem qO {W0 W:World} {mb:Nat} {L:List (K M×Int)} (s:K M) (v:Int) (hv:1<=v/\v<=1000000) (hl:L.length+1<=999999) (hm:Mp 0 W0 nK keyOf mb L W) (hpos:∀ p∈L,1<=p.2/\p.2<=1000000) :
  Calls Tryz.prog 159 #[.pointer (some ⟨mb,2,none⟩),.string s.1,.int .i64 (v)] W fun e w'=>e=.returned (.bool (!has s L))/\Dm W0 mb (insL keyOf s v L) w'/\Chm mb W w':=by
 refine (aFP (aEv 0 W0) mb L s v W (by omega) hm).mono ?_;rintro e w' ⟨rfl,m,c⟩;refine⟨?_,⟨⟨nK,m,.inr rfl⟩,xE (Q:=fun v=>1<=v/\v<=1000000) hv hpos,?_⟩,c⟩
 ·unfold has;cases bP keyOf s L <;> rfl
 have:=gF (v:=v) (k:=s) hm.srt
 split at this <;> omega
variable {M:Nat}
theorem run_store_func {P:Program} {w:World} {m:Mode} {ad:Addr} (f:Fn) (a b:Array Value):(store ad (.func f a b) m).run P w=stored P w ad (.func f a b) m:=run_store P w ad _ m rfl
attribute [local go_sem] run_store_func
theorem jH (mb:Nat) (W:World):Calls Tryz.prog 157 #[.pointer (some ⟨mb,2,none⟩)] W fun e w'=>e=.returned (.pointer (some ⟨mb,2,none⟩))/\w'=W:=by
 go_enter Tryz.func157,Tryz.ntmps157
 go_wp2
 go_ret;exact⟨rfl,rfl⟩
theorem aCt {W0 W x1:World} {mb:Nat} {cv:Value} (h:Mp (M:=M) 0 W0 cv keyOf mb [] W) (hx:Below W.heap.size W x1) :
  Mp (M:=M) 0 W0 nK keyOf mb [] ((x1.setCell ⟨mb,2,none⟩ nK).setCell ⟨mb,3,none⟩ (.pointer none))/\Chm mb W ((x1.setCell ⟨mb,2,none⟩ nK).setCell ⟨mb,3,none⟩ (.pointer none)):=by
 have h1:=h.later hx;obtain⟨t,p,d1,d2,d3⟩:=h1.rt;have c0:=h1.c0;refine⟨⟨Nat.zero_le _,?_,⟨.nil,none,?_,rfl,rfl⟩,fun j=>by rw[World.frozen?_setCell,World.frozen?_setCell];exact h1.fz j,Srt.nil,?_,(h1.ty.set 2 _).set 3 _⟩,?_,fun j hj2 hj3=>?_⟩
 ·rw[World.cell?_setCell_other _ _ _ _ (by simp)];exact World.cell?_setCell_same _ _ _ c0
 ·refine World.cell?_setCell_same (u:=.pointer p) _ _ _ ?_;rw[World.cell?_setCell_other _ _ _ _ (by simp)];exact d1
 ·exact (h1.bel.setCell (Nat.zero_le _) _).setCell (Nat.zero_le _) _
 ·exact ((Chg.of_below (S:=fun b=>b=mb) hx).setCell (fun _=>rfl) _).setCell (fun _=>rfl) _
 rw[World.cell?_setCell_other _ _ _ _ (fun e=>hj3 (by cases e;rfl)),World.cell?_setCell_other _ _ _ _ (fun e=>hj2 (by cases e;rfl))];exact World.cell?_of_block (w:=W) (hx.block mb h.lt)
theorem mk0 {W0 W:World} {mb:Nat} (h:Mp (M:=M) 0 W0 nK keyOf mb [] W):Dm (M:=M) W0 mb [] W:=⟨⟨nK,h,.inr rfl⟩,fun p hp=>by simp at hp,by simp⟩
theorem add_any {W0 W:World} {mb:Nat} {L:List (K M×Int)} (s:K M) (h:Dm W0 mb L W) (hl:L.length+1<=999999) (ht:tm s L+1<=1000000) :
  Calls Tryz.prog 133 #[.pointer (some ⟨mb,2,none⟩),.string s.1] W fun e w'=>e=.returned (.bool (!has s L))/\Dm W0 mb (insL keyOf s (tm s L+1) L) w'/\Chm mb W w':=by
 obtain⟨cv,h1,h2⟩:=h.mp;have hbd:=h.tm_bd s;have hpos:=qAq h.pos;have hlen:=len_any h;have hlt0:=h.lt;by_cases he:L=[]
 ·subst he;have hb1:=h.bel;obtain⟨hb,hhb⟩:∃ hb,W.heap.size=hb:=⟨_,rfl⟩;have hnew:=new_any 163 #[] W;rw[hhb] at hnew;have hmb:=h.lt;obtain⟨t,p,d1,d2,d3⟩:=h1.rt;have HX:=(fun x1 (hx:Below W.heap.size W x1)=>aCt h1 hx);have hz:=(fun x1 (hx:Below W.heap.size W x1)=>h1.later hx);have e0:tm s ([]:List (K M×Int))=0:=rfl;have e1:has s ([]:List (K M×Int))=false:=rfl;have hg0:∀ y,Mp (M:=M) 0 W0 nK keyOf mb [] y->Calls Tryz.prog 158 #[.pointer (some ⟨mb,2,none⟩),.string s.1] y fun e w'=>e=.returned (.tuple #[(Value.int .i64 (0)),.bool false])/\Below y.heap.size y w':=fun y m=>get_any s (mk0 m)
  rw[e0,e1];clear hbd ht hl h2 hpos d1 d2 d3 e0 e1;go_enter Tryz.func133,Tryz.ntmps133
  go_wp2_with (first
   | (go_at_call 161;(with_reducible refine hlen.mono ?_);rintro e w' ⟨rfl,hw⟩;subst w')
   | (go_at_call 162;(with_reducible refine hnew.mono ?_);rintro e x1 ⟨rfl,k0,k1,b1⟩;rw[<- hhb] at b1;obtain⟨n1,g1⟩:=HX x1 b1;have z1:=hz x1 b1;have y0:=z1.c0;obtain⟨_,pp,y1,_,_⟩:=z1.rt;have f0:=z1.fz 2;have f1:=z1.fz 3)
   | (go_at_call 158;(with_reducible refine (hg0 _ n1).mono ?_);rintro e x2 ⟨rfl,b2⟩;have n2:=n1.later b2;have hput:Calls Tryz.prog 159 #[.pointer (some ⟨mb,2,none⟩),.string s.1,.int .i64 (1)] x2 fun e w'=>e=.returned (.bool true)/\Dm W0 mb (insL keyOf s (0+1) []) w'/\Chm mb x2 w':=qO (L:=[]) s 1 (by omega) (by simp) n2 (by simp))
   | (go_at_call 159;(with_reducible refine hput.mono ?_);rintro e x3 ⟨rfl,d3,c3⟩))
  go_ret;exact⟨rfl,d3,(g1.trans (Chm.of_below n1.lt b2)).trans c3⟩
 have hcv:cv=nK:=h2.resolve_left he;subst hcv;have hne:L.length≠0:=(fun e=>he (List.length_eq_zero_iff.1 e));obtain⟨zl,hzl⟩:∃ zl,L.length=zl:=⟨_,rfl⟩;rw[hzl] at hlen hne;have hle:decide ((zl:Int)=0)=false:=decide_eq_false (by omega);have hbe:((zl:Int)==0)=false:=(by simp;omega);have hget:=get_any s h;obtain⟨tv,htv⟩:∃ tv,tm s L=tv:=⟨_,rfl⟩;obtain⟨hv,hhv⟩:∃ hv,has s L=hv:=⟨_,rfl⟩;have hput:=(fun x (hx:Below W.heap.size W x)=>qO s (tm s L+1) (by omega) hl (h1.later hx) hpos.out);rw[htv,hhv] at hget hput ⊢;rw[htv] at hbd ht;have hwt:IntKind.i64.wrap (tv+1)=tv+1:=(by rw[IntKind.wrap_i64];omega);have HT:=qAq htv;have HH:=qAq hhv;clear htv hhv hzl he h2 h1 hpos;go_enter Tryz.func133,Tryz.ntmps133
 go_wp2_with (first
  | (go_at_call 161;(with_reducible refine hlen.mono ?_);rintro e w' ⟨rfl,hw⟩;subst w')
  | (go_at_call 158;(with_reducible refine hget.mono ?_);rintro e x2 ⟨rfl,b2⟩)
  | (go_at_call 159;(with_reducible refine (hput _ b2).mono ?_);rintro e x3 ⟨rfl,d3,c3⟩))
 go_ret;exact⟨rfl,d3,(Chm.of_below hlt0 b2).trans c3⟩
variable {M:Nat}
def kE (s:K M) (L:List (K M×Int)):List (K M×Int):=if 1<tm s L then insL keyOf s (tm s L-1) L else dL keyOf s L
theorem uE (s:K M):tm s []=0:=rfl
theorem take_any {W0 W:World} {mb:Nat} {L:List (K M×Int)} (s:K M) (h:Dm W0 mb L W) (hl:L.length+1<=999999) :
  Calls Tryz.prog 132 #[.pointer (some ⟨mb,2,none⟩),.string s.1] W fun e w'=>e=.returned (.bool (has s L))/\Dm W0 mb (kE s L) w'/\Chm mb W w':=by
 obtain⟨cv,h1,h2⟩:=h.mp;have hbd:=h.tm_bd s;have hpos:=qAq h.pos;have hget:=get_any s h;have hall:=jH mb W;have hlt0:=h.lt;obtain⟨hv,hhv⟩:∃ hv,has s L=hv:=⟨_,rfl⟩;unfold kE;by_cases ht:1<tm s L
 ·have hcv:cv=nK:=h2.resolve_left (fun e=>by rw[e,uE] at ht;omega);subst hcv;have hput:=(fun x (hx:Below W.heap.size W x)=>qO s (tm s L-1) (by omega) hl (h1.later hx) hpos.out);rw[if_pos ht];have hh1:has s L=true:=hbd.2.2.2 (by omega);obtain⟨tv,htv⟩:∃ tv,tm s L=tv:=⟨_,rfl⟩;rw[htv] at hget hput hbd ht ⊢;rw[hh1] at hget ⊢;have hwt:IntKind.i64.wrap (tv-1)=tv-1:=(by rw[IntKind.wrap_i64];omega);have hdt:decide (1<tv)=true:=decide_eq_true ht;clear htv hh1 hhv h1 h2 hbd hpos;go_enter Tryz.func132,Tryz.ntmps132
  go_wp2_with (first
   | (go_at_call 157;(with_reducible refine hall.mono ?_);rintro e w' ⟨rfl,hw⟩;subst w')
   | (go_at_call 158;(with_reducible refine hget.mono ?_);rintro e x2 ⟨rfl,b2⟩)
   | (go_at_call 159;(with_reducible refine (hput _ b2).mono ?_);rintro e x3 ⟨rfl,d3,c3⟩))
  go_ret;exact⟨rfl,d3,(Chm.of_below hlt0 b2).trans c3⟩
 rw[if_neg ht];have hdel:=(fun x (hx:Below W.heap.size W x)=>del_any s (h.later hx));obtain⟨tv,htv⟩:∃ tv,tm s L=tv:=⟨_,rfl⟩;rw[htv] at hget ht;have hdt:decide (1<tv)=false:=decide_eq_false ht;clear htv hhv h1 h2 hbd hpos;go_enter Tryz.func132,Tryz.ntmps132
 go_wp2_with (first
  | (go_at_call 157;(with_reducible refine hall.mono ?_);rintro e w' ⟨rfl,hw⟩;subst w')
  | (go_at_call 158;(with_reducible refine hget.mono ?_);rintro e x2 ⟨rfl,b2⟩)
  | (go_at_call 160;(with_reducible refine (hdel _ b2).mono ?_);rintro e x3 ⟨rfl,d3,c3⟩))
 go_ret;exact⟨rfl,d3,(Chm.of_below hlt0 b2).trans c3⟩
theorem aEx {W0 W:World} {mb:Nat} {L:List (K M×Int)} (h:Dm W0 mb L W) :
  Calls Tryz.prog 139 #[.pointer (some ⟨mb,2,none⟩)] W fun e w'=>e=.returned (.int .i64 ((L.length:Int)))/\w'=W:=by
 have hlen:=len_any h;have hall:=jH mb W;go_enter Tryz.func139,Tryz.ntmps139
 go_wp2_with (first
  | (go_at_call 157;(with_reducible refine hall.mono ?_);rintro e w' ⟨rfl,hw⟩;subst w')
  | (go_at_call 161;(with_reducible refine hlen.mono ?_);rintro e w' ⟨rfl,hw⟩;subst w'))
 go_ret;exact⟨rfl,rfl⟩
end Go.Proofs.YtgbkmjnnlkgpnaaGreat.Co.S
namespace Go.Proofs.YtgbkmjnnlkgpnaaGreat.Co
open Go Go.Proofs
section
variable {M:Nat}
theorem nX {a b:K M} (h:keyOf a=keyOf b):a=b:=Subtype.ext (aCe.1 h)
def aFU (l:List (K M)):Prop:=l.Pairwise (fun a b=>keyOf a<keyOf b)
abbrev keys (L:List (K M×Int)):List (K M):=L.map Prod.fst
theorem xF {L:List (K M×Int)} (h:Srt keyOf L):aFU (keys L):=by
 unfold aFU;rw[List.pairwise_map];exact h
namespace S
theorem aBa {s:K M}:∀ {L:List (K M×Int)},has s L=true↔s∈keys L
 | []=>by simp[has,bP]
 | (a,w)::r=>by
  have ih:=aBa (s:=s) (L:=r);unfold has at ih ⊢;rw[bP];by_cases h:keyOf a=keyOf s
  ·rw[if_pos h,nX h];simp
  ·have hn:s≠a:=(fun e=>h (by rw[e]));rw[if_neg h,ih];simp[hn]
theorem eG (s a:K M) (w:Int) (r:List (K M×Int)):tm s ((a,w)::r)=if a=s then w else tm s r:=by
 unfold tm;rw[bP];by_cases h:keyOf a=keyOf s
 ·rw[if_pos h,if_pos (nX h)];rfl
 have hn:a≠s:=(fun e=>h (by rw[e]));rw[if_neg h,if_neg hn]
theorem xG {s:K M}:∀ {L:List (K M×Int)},(∀ p∈L,keyOf s<keyOf p.1)->tm s L=0
 | [],_=>rfl
 | (a,w)::r,h=>by
  have h1:keyOf s<keyOf a:=h (a,w) (by simp);rw[eG,if_neg (fun e=>by rw[e] at h1;omega),xG (fun p hp=>h p (by simp[hp]))]
theorem aAf (s:K M) (v:Int) (t:K M):∀ {L:List (K M×Int)},Srt keyOf L->tm t (insL keyOf s v L)=if s=t then v else tm t L
 | [],_=>by rw[insL,eG,uE]
 | (a,w)::r,h=>by
  unfold Srt at h;rw[List.pairwise_cons] at h;have ih:=aAf s v t h.2;rw[insL];by_cases h1:keyOf s<keyOf a
  ·rw[if_pos h1,eG]
  ·by_cases h2:keyOf a<keyOf s
   ·rw[if_neg h1,if_pos h2,eG,ih,eG];by_cases h3:a=t
    ·have:¬ s=t:=(fun e=>by rw[<- h3] at e;rw[e] at h2;omega);rw[if_pos h3,if_neg this,if_pos h3]
    ·rw[if_neg h3];by_cases h4:s=t
     ·rw[if_pos h4,if_pos h4]
     ·rw[if_neg h4,if_neg h4,if_neg h3]
   ·have he:a=s:=nX (by omega);subst he;rw[if_neg h1,if_neg h2,eG,eG];by_cases h3:a=t
    ·rw[if_pos h3,if_pos h3]
    ·rw[if_neg h3,if_neg h3,if_neg h3]
theorem aEy (s t:K M):∀ {L:List (K M×Int)},Srt keyOf L->tm t (dL keyOf s L)=if s=t then 0 else tm t L
 | [],_=>by rw[dL,uE];split <;> rfl
 | (a,w)::r,h=>by
  unfold Srt at h;rw[List.pairwise_cons] at h;have ih:=aEy s t h.2;rw[dL];by_cases h1:keyOf a=keyOf s
  ·have he:a=s:=nX h1;subst he;rw[if_pos h1,eG];by_cases h3:a=t
   ·subst h3;rw[if_pos rfl];exact xG (fun p hp=>h.1 p hp)
   ·rw[if_neg h3,if_neg h3]
  ·rw[if_neg h1,eG,ih,eG];by_cases h3:a=t
   ·have:¬ s=t:=(fun e=>h1 (by rw[h3,e]));rw[if_pos h3,if_neg this,if_pos h3]
   ·rw[if_neg h3,if_neg h3]
def cnt (s:K M) (l:List (K M)):Nat:=(l.filter (fun t=>decide (t=s))).length
def Cnt (l:List (K M)) (L:List (K M×Int)):Prop:=∀ s,tm s L=(cnt s l:Int)
theorem Dm.srt {W0 W:World} {mb:Nat} {L:List (K M×Int)} (h:Dm W0 mb L W):Srt keyOf L:=by obtain⟨cv,h1,_⟩:=h.mp;exact h1.srt
theorem aEz (s:K M) {L:List (K M×Int)} (h:Srt keyOf L):Srt keyOf (kE s L):=by
 unfold kE;split
 ·exact h.ins
 exact h.del
theorem aBb (s t:K M) {L:List (K M×Int)} (h:Srt keyOf L) (hp:0<=tm s L):tm t (kE s L)=if s=t then (if 1<=tm s L then tm s L-1 else 0) else tm t L:=by
 unfold kE;by_cases h1:1<tm s L
 ·rw[if_pos h1,aAf s _ t h];by_cases e:s=t
  ·rw[if_pos e,if_pos e,if_pos (by omega)]
  rw[if_neg e,if_neg e]
 rw[if_neg h1,aEy s t h];by_cases e:s=t
 ·rw[if_pos e,if_pos e];split <;> omega
 rw[if_neg e,if_neg e]
theorem xH (s:K M) {L:List (K M×Int)} (h:Srt keyOf L):(kE s L).length<=L.length:=by
 unfold kE;split
 ·rename_i h1
  have:=gF (v:=tm s L-1) (k:=s) h
  have hs:(bP keyOf s L).isSome=true:=by
   unfold tm at h1;cases hg:bP keyOf s L with
   | none=>rw[hg] at h1;simp at h1
   | some v=>rfl
  rw[if_pos hs] at this;omega
 have:=gG (key:=keyOf) (k:=s) (L:=L)
 omega
theorem Dm.ty {W0 W:World} {mb:Nat} {L:List (K M×Int)} (h:Dm W0 mb L W):Ty W mb:=by obtain⟨cv,h1,_⟩:=h.mp;exact h1.ty
theorem Tr.of_nodes {W W':World} {B:Nat} (hb:∀ (b:Nat) (cs:Array Value),W.heap[b]?=some (Obj.cells cs 209)->W'.heap[b]?=W.heap[b]?):∀ {t:T (K M) Int} {p:Option Addr},Tr W B t p->Tr W' B t p
 | .nil,_,h=>h
 | .nd _ _ _ _,_,⟨b,lp,rp,h1,h2,h3,h4,h5⟩=>⟨b,lp,rp,h1,h2,(hb b _ h3).trans h3,Tr.of_nodes hb h4,Tr.of_nodes hb h5⟩
end S
end
