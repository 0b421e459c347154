import Derived.Test.YthlccadnojnkaaaGreatZk6
import Derived.Test.YthlccadnojnkaaaGreatZk1
import Derived.Test.YthlccadnojnkaaaGreatZk7
import Derived.Defers
import Derived.Deep.RegionLaw
import Derived.Deep.CutRange
import Derived.Shelf.Abstract
import Derived.Recover
set_option maxHeartbeats 1000000
set_option maxRecDepth 100000
namespace Go.Proofs.YthlccadnojnkaaaGreat.Co.S
open Go Go.RowKit Go.Shelf Go.Proofs Go.Proofs.YthlccadnojnkaaaGreat Go.Proofs.YthlccadnojnkaaaGreat.Co
variable {M:Nat}
attribute [local go_sem] aEB aEC
def mtT (ty:TypeId):Bool:=ty==168 || ty==32 || ty==116 || ty==3 || ty==71 || ty==92 || ty==99 || ty==35 || ty==45 || ty==77 || ty==122 || ty==39
def Ty (W:World) (mb:Nat):Prop:=∃ cs ty,W.heap[mb]?=some (.cells cs ty)/\mtT ty=true
theorem Ty.of {W W':World} {mb:Nat} (h:Ty W mb) (hb:W'.heap[mb]?=W.heap[mb]?):Ty W' mb:=by
 obtain⟨cs,ty,h1,h2⟩:=h;exact⟨cs,ty,hb.trans h1,h2⟩
theorem Ty.set {W:World} {mb:Nat} (h:Ty W mb) (j:Nat) (v:Value):Ty (W.setCell ⟨mb,j,none⟩ v) mb:=by
 obtain⟨cs,ty,h1,h2⟩:=h;exact⟨_,ty,heap_setCell_same W mb j cs ty v h1,h2⟩
structure Mp (D:Nat) (W0:World) (cv:Value) (key:K M->Int) (mb:Nat) (L:List (K M×Int)) (W:World):Prop where
 dm:D<=mb
 c0:W.cell? ⟨mb,2,none⟩=some (cv)
 rt:∃ t p,W.cell? ⟨mb,3,none⟩=some (.pointer p)/\Tr W (mb+1) t p/\t.toL=L
 fz:∀ j,W.frozen? ⟨mb,j,none⟩=false
 srt:Srt key L
 bel:Below D W0 W
 ty:Ty W mb
theorem Mp.lt {D:Nat} {W0:World} {cv:Value} {key:K M->Int} {mb:Nat} {L:List (K M×Int)} {W:World} (h:Mp D W0 cv key mb L W):mb<W.heap.size:=World.block_lt_of_cell? W ⟨mb,2,none⟩ h.c0
theorem Mp.later {D:Nat} {W0:World} {cv:Value} {key:K M->Int} {mb:Nat} {L:List (K M×Int)} {W W':World} (h:Mp D W0 cv key mb L W) (hb:Below W.heap.size W W'):Mp D W0 cv key mb L W':=by
 have hbl:=hb.block mb h.lt;obtain⟨t,p,h1,h2,h3⟩:=h.rt;exact⟨h.dm,(World.cell?_of_block (w:=W) hbl).trans h.c0,⟨t,p,(World.cell?_of_block (w:=W) hbl).trans h1,h2.later hb,h3⟩,fun j=>(World.frozen?_of_block (w:=W) hbl).trans (h.fz j),h.srt,h.bel.trans (hb.mono (by have:=h.lt;have:=h.dm;omega)),h.ty.of hbl⟩
theorem aGr (g:Nat) (lb:Array Value) (W:World):Calls Tryz.prog 172 #[(.func (.func g) #[] lb)] W fun e w' =>
  e=.returned (Value.pointer (some ⟨W.heap.size,0,none⟩))/\w'.cell? ⟨W.heap.size,0,none⟩=some (.func (.func g) #[] lb)/\w'.cell? ⟨W.heap.size,1,none⟩=some (.pointer none)/\Below W.heap.size W w':=by
 go_enter Tryz.func172,Tryz.ntmps172
 go_wp2
 go_ret;have hh:=heap_alloc_new W (.cells #[(.func (.func g) #[] lb),.pointer none] 164);exact⟨rfl,aA hh 0,aA hh 1,aD W _⟩
structure Chm (mb:Nat) (W W':World):Prop where
 chg:Chg (fun b=>b=mb) W W'
 keep:∀ j,j≠2->j≠3->W'.cell? ⟨mb,j,none⟩=W.cell? ⟨mb,j,none⟩
theorem Chm.trans {mb:Nat} {A B C:World} (h:Chm mb A B) (k:Chm mb B C):Chm mb A C:=⟨h.chg.trans k.chg (fun _ _ x=>x) (fun _ _ x=>x),fun j h2 h3=>(k.keep j h2 h3).trans (h.keep j h2 h3)⟩
theorem Chm.of_below {mb:Nat} {A B:World} (hlt:mb<A.heap.size) (h:Below A.heap.size A B):Chm mb A B:=⟨Chg.of_below h,fun _ _ _=>World.cell?_of_block (w:=A) (h.block mb hlt)⟩
theorem vU (w:World):CallsD Tryz.prog 186 #[] .returning w fun e u' w'=>e=.returned (.tuple #[])/\u'=.returning/\w'=w:=by
 refine callsD_of_wpS Tryz.func186 rfl fun c₀ cs hu=>?_
 apply wpS_region;cases c₀
 simp_all [wpOpsS,go_sem,recoverD,Tryz.ntmps186,bodyPostS,results,Tryz.results186]
theorem vV (w:World):CallsD Tryz.prog 189 #[] .returning w fun e u' w'=>e=.returned (.tuple #[])/\u'=.returning/\w'=w:=by
 refine callsD_of_wpS Tryz.func189 rfl fun c₀ cs hu=>?_
 apply wpS_region;cases c₀
 simp_all [wpOpsS,go_sem,recoverD,Tryz.ntmps189,bodyPostS,results,Tryz.results189]
theorem vW (w:World):CallsD Tryz.prog 184 #[] .returning w fun e u' w'=>e=.returned (.tuple #[])/\u'=.returning/\w'=w:=by
 refine callsD_of_wpS Tryz.func184 rfl fun c₀ cs hu=>?_
 apply wpS_region;cases c₀
 simp_all [wpOpsS,go_sem,recoverD,Tryz.ntmps184,bodyPostS,results,Tryz.results184]
def Laid (mb:Nat) (L:List (K M×Int)) (W W':World):Prop:=∃ t p,W'.cell? ⟨mb,3,none⟩=some (.pointer p)/\Tr W' (mb+1) t p/\t.toL=L/\Chm mb W W'/\Ty W' mb
theorem aAL {mb:Nat} {L:List (K M×Int)} {W x:World} {t:T (K M) Int} {p q:Option Addr} (hty:Ty W mb) (hb:Below W.heap.size W x) (hc:x.cell? ⟨mb,3,none⟩=some (.pointer q)) (ht:Tr x (mb+1) t p) (hL:t.toL=L) :
  Laid mb L W (x.setCell ⟨mb,3,none⟩ (.pointer p)):=by
 have hlt:mb<W.heap.size:=(by obtain⟨_,_,h1,_⟩:=hty;exact aC h1);refine⟨t,p,World.cell?_setCell_same _ _ _ hc,Tr.of (fun b h1 _=>Below.heap_setCell _ _ _ b (by intro e;simp at e;omega)) ht,hL,⟨(Chg.of_below (S:=fun b=>b=mb) hb).setCell (fun _=>rfl) _,fun j _ hj=>?_⟩,(hty.of (hb.block mb hlt)).set 3 _⟩;rw[World.cell?_setCell_other _ _ _ _ (fun e=>hj (by cases e;rfl))];exact World.cell?_of_block (w:=W) (hb.block mb hlt)
theorem Laid.mp {D:Nat} {W0:World} {cv:Value} {key:K M->Int} {mb:Nat} {L L':List (K M×Int)} {W W':World} (h:Mp D W0 cv key mb L W) (hl:Laid mb L' W W') (hs:Srt key L') (hf:∀ j,W'.frozen? ⟨mb,j,none⟩=false)
  (h0:W'.cell? ⟨mb,2,none⟩=some (cv)):Mp D W0 cv key mb L' W':=by
 obtain⟨t,p,h1,h2,h3,h4,h5⟩:=hl;refine⟨h.dm,h0,⟨t,p,h1,h2,h3⟩,hf,hs,h.bel.trans (h4.chg.below (by have:=h.lt;have:=h.dm;omega) (fun b hb e=>by have:=h.dm;omega)),h5⟩
theorem aGs {D:Nat} {W0:World} {cv:Value} {key:K M->Int} (hc:Cmp D W0 cv key) (mb:Nat) (L:List (K M×Int)) (k:K M) (v:Int) (W:World) (hL:L.length+1<=1000000) (h:Mp D W0 cv key mb L W) :
  Calls Tryz.prog 169 #[.pointer (some ⟨mb,2,none⟩),.string (k).1,.int .i64 (v)] W fun e w'=>e=.returned (.bool (getL key k L).isNone)/\Mp D W0 cv key mb (insL key k v L) w'/\Chm mb W w':=by
 obtain⟨g,lb,rfl,hent0,hrun⟩:=id hc;have hlt:=h.lt;obtain⟨t,p,c1,ht,hl⟩:=h.rt;have c0:=h.c0;have fz:=h.fz 3;have FZ:=qAq h.fz;have HTY:=qAq h.ty;have hs:t.size=L.length:=bS hl;have cn:=bB t p (mb+1) W ht;have hso:Srt key t.toL:=hl▸h.srt;have pt:=(fun q=>rX hc (mb+1) (by have:=h.dm;omega) k v t p (W.drewN q) hso (by omega) hlt (h.bel.trans ((aG W q).mono (by have:=h.dm;omega))) (ht.drewN q));rw[hl] at pt;go_enter_defers Tryz.func169,Tryz.ntmps169;go_upto_region 5 with (go_at_call 187;(with_reducible refine cn.mono ?_);rintro e x1 ⟨rfl,hx1⟩;subst x1);have hent:=enters_of Tryz.func188 (by kernel_rfl) rfl
 go_cut [] from 22 to 35 (fun wx=>Hid (Laid mb (insL key k v L) W wx/\(∀ j,wx.frozen? ⟨mb,j,none⟩=false)/\wx.cell? ⟨mb,2,none⟩=some ((.func (.func g) #[] lb))))
 case first =>
  refine aAK ?_
  go_region_law (refine cA hent [.pointer p,(.func (.func g) #[] lb),(Value.string (k).1),(Value.int .i64 (v))] (by simp[Act.eval]) ?_;refine (pt _).mono ?_;rintro e x2 ⟨t2,p2,rfl,ht2,hL2,hb2⟩;have hW2:=aB (aG W _) hb2;have cc2:=(World.cell?_of_block (w:=W) (hW2.block mb hlt)).trans c1;have cc0:=(World.cell?_of_block (w:=W) (hW2.block mb hlt)).trans c0;have ff2:=(World.frozen?_of_block (w:=W) (hW2.block mb hlt)).trans fz;have FF2:=qAq (fun j=>(World.frozen?_of_block (a:=⟨mb,j,none⟩) (w:=W) (hW2.block mb hlt)).trans (FZ.out j));have HL:=qAq (aAL HTY.out hW2 cc2 ht2 hL2);refine⟨_,rfl,?_⟩)
  all_goals (go_wp2_with fail;go_meet;exact qAq ⟨HL.out,fun j=>by rw[World.frozen?_setCell];exact FF2.out j,by rw[World.cell?_setCell_other _ _ _ _ (by simp)];exact cc0⟩)
 obtain⟨hld,hfw,h0w⟩:=hcut.out;have hmp:=hld.mp h h.srt.ins hfw h0w;obtain⟨t2,p2,d1,d2,d3,d4,_⟩:=hld;have cn2:=bB t2 p2 (mb+1) wc d2;have hs2:t2.size=L.length+(if (getL key k L).isSome then 0 else 1):=(by rw[bS d3,eR h.srt]);rw[hs2] at cn2;have HF:=qAq (qBq hmp d4);clear hmp d4 d2 hcut;cases hg:getL key k L with
 | none =>
  rw[hg] at cn2;go_wp2_with (go_at_call 187;(with_reducible refine cn2.mono ?_);rintro e x3 ⟨rfl,hx3⟩;subst x3);refine leaves_cons (f:=186) (args:=#[]) (by simp) (by simp[go_sem]) ?_;refine (vU _).mono ?_;rintro e u' w'' ⟨rfl,rfl,rfl⟩;exact⟨_,results_tmp rfl _ _ _,by simp[hg];try omega,HF.out.1,HF.out.2⟩
 | some u =>
  rw[hg] at cn2;go_wp2_with (go_at_call 187;(with_reducible refine cn2.mono ?_);rintro e x3 ⟨rfl,hx3⟩;subst x3);refine leaves_cons (f:=186) (args:=#[]) (by simp) (by simp[go_sem]) ?_;refine (vU _).mono ?_;rintro e u' w'' ⟨rfl,rfl,rfl⟩;exact⟨_,results_tmp rfl _ _ _,by simp[hg];try omega,HF.out.1,HF.out.2⟩
variable {M:Nat}
attribute [local go_sem] aEB aEC
theorem aGt {D:Nat} {W0:World} {cv:Value} {key:K M->Int} (mb:Nat) (L:List (K M×Int)) (hcc:L=[]∨Cmp D W0 cv key) (k:K M) (W:World) (hL:L.length<=1000000) (h:Mp D W0 cv key mb L W) :
  Calls Tryz.prog 170 #[.pointer (some ⟨mb,2,none⟩),.string (k).1] W fun e w'=>e=.returned (.bool (getL key k L).isSome)/\Mp D W0 cv key mb (delL key k L) w'/\Chm mb W w':=by
 have hlt:=h.lt;obtain⟨t,p,c1,ht,hl⟩:=h.rt;have c0:=h.c0;have fz:=h.fz 3;have FZ:=qAq h.fz;have HTY:=qAq h.ty;have hs:t.size=L.length:=bS hl;have cn:=bB t p (mb+1) W ht;have hso:Srt key t.toL:=hl▸h.srt;have hct:t=.nil∨Cmp D W0 cv key:=hcc.imp (fun e=>T.toL_nil (hl.trans e)) id;have pt:=(fun q=>fT (mb+1) (by have:=h.dm;omega) k t p (W.drewN q) hct hso (by omega) hlt (h.bel.trans ((aG W q).mono (by have:=h.dm;omega))) (ht.drewN q));rw[hl] at pt;go_enter_defers Tryz.func170,Tryz.ntmps170;go_upto_region 5 with (go_at_call 187;(with_reducible refine cn.mono ?_);rintro e x1 ⟨rfl,hx1⟩;subst x1);have hent:=enters_of Tryz.func190 (by kernel_rfl) rfl
 go_cut [] from 13 to 25 (fun wx=>Hid (Laid mb (delL key k L) W wx/\(∀ j,wx.frozen? ⟨mb,j,none⟩=false)/\wx.cell? ⟨mb,2,none⟩=some (cv)))
 case first =>
  refine aAK ?_
  go_region_law (refine cA hent [.pointer p,cv,(Value.string (k).1)] (by simp[Act.eval]) ?_;refine (pt _).mono ?_;rintro e x2 ⟨t2,p2,rfl,ht2,hL2,hb2⟩;have hW2:=aB (aG W _) hb2;have cc2:=(World.cell?_of_block (w:=W) (hW2.block mb hlt)).trans c1;have cc0:=(World.cell?_of_block (w:=W) (hW2.block mb hlt)).trans c0;have ff2:=(World.frozen?_of_block (w:=W) (hW2.block mb hlt)).trans fz;have FF2:=qAq (fun j=>(World.frozen?_of_block (a:=⟨mb,j,none⟩) (w:=W) (hW2.block mb hlt)).trans (FZ.out j));have HL:=qAq (aAL HTY.out hW2 cc2 ht2 hL2);refine⟨_,rfl,?_⟩)
  all_goals (go_wp2_with fail;go_meet;exact qAq ⟨HL.out,fun j=>by rw[World.frozen?_setCell];exact FF2.out j,by rw[World.cell?_setCell_other _ _ _ _ (by simp)];exact cc0⟩)
 obtain⟨hld,hfw,h0w⟩:=hcut.out;have hmp:=hld.mp h h.srt.del hfw h0w;obtain⟨t2,p2,d1,d2,d3,d4,_⟩:=hld;have cn2:=bB t2 p2 (mb+1) wc d2;have hs2:t2.size+(if (getL key k L).isSome then 1 else 0)=L.length:=(by rw[bS d3,eS]);have HF:=qAq (qBq hmp d4);obtain⟨z2,hz2⟩:∃ z2,t2.size=z2:=⟨_,rfl⟩;rw[hz2] at cn2 hs2;obtain⟨zl,hzl⟩:∃ zl,L.length=zl:=⟨_,rfl⟩;rw[hzl] at hs2 ⊢;clear hmp d4 d2 hcut;cases hg:getL key k L with
 | none =>
  rw[hg] at hs2;obtain rfl:z2=zl:=(by simpa using hs2);go_wp2_with (go_at_call 187;(with_reducible refine cn2.mono ?_);rintro e x3 ⟨rfl,hx3⟩;subst x3);refine leaves_cons (f:=189) (args:=#[]) (by simp) (by simp[go_sem]) ?_;refine (vV _).mono ?_;rintro e u' w'' ⟨rfl,rfl,rfl⟩;exact⟨_,results_tmp rfl _ _ _,by simp[hg],HF.out.1,HF.out.2⟩
 | some u =>
  rw[hg] at hs2;obtain rfl:zl=z2+1:=(by simp at hs2;omega);go_wp2_with (go_at_call 187;(with_reducible refine cn2.mono ?_);rintro e x3 ⟨rfl,hx3⟩;subst x3);refine leaves_cons (f:=189) (args:=#[]) (by simp) (by simp[go_sem]) ?_;refine (vV _).mono ?_;rintro e u' w'' ⟨rfl,rfl,rfl⟩;exact⟨_,results_tmp rfl _ _ _,by simp[hg];try omega,HF.out.1,HF.out.2⟩
theorem aED {D:Nat} {W0:World} {cv:Value} {key:K M->Int} (mb:Nat) (L:List (K M×Int)) (W:World) (h:Mp D W0 cv key mb L W) :
  Calls Tryz.prog 191 #[.pointer (some ⟨mb,2,none⟩)] W fun e w'=>w'=W/\∃ t p,e=.returned (.pointer p)/\Tr W (mb+1) t p/\t.toL=L:=by
 obtain⟨t,p,c1,ht,hl⟩:=h.rt;go_enter Tryz.func191,Tryz.ntmps191
 go_wp2
 go_ret;exact⟨rfl,t,p,rfl,ht,hl⟩
theorem aGu {D:Nat} {W0:World} {cv:Value} {key:K M->Int} (mb:Nat) (L:List (K M×Int)) (W:World) (h:Mp D W0 cv key mb L W) :
  Calls Tryz.prog 171 #[.pointer (some ⟨mb,2,none⟩)] W fun e w'=>e=.returned (Value.int .i64 ((L.length:Int)))/\w'=W:=by
 have ht:=aED mb L W h;go_enter Tryz.func171,Tryz.ntmps171
 go_wp2_with (first
  | (go_at_call 191;(with_reducible refine ht.mono ?_);rintro e x1 ⟨hx1,t,p,rfl,htr,hl⟩;subst x1;have cn:=bB t p (mb+1) W htr;rw[bS hl] at cn)
  | (go_at_call 187;(with_reducible refine cn.mono ?_);rintro e x1 ⟨rfl,hx1⟩;subst x1))
 go_ret;exact⟨rfl,rfl⟩
theorem Has.undrew {W:World} {B:Nat}:∀ {o:Option Int} {q:Option Addr},Has M W.drew B o q->Has M W B o q
 | none,_,h=>h
 | some _,_,⟨b,a,n,lp,rp,h1,h2,h3⟩=>⟨b,a,n,lp,rp,h1,h2,⟨h3.c0,h3.c1,h3.c2,h3.c3,h3.c4⟩⟩
theorem aCk {D:Nat} {W0:World} {cv:Value} {key:K M->Int} (mb:Nat) (L:List (K M×Int)) (hcc:L=[]∨Cmp D W0 cv key) (k:K M) (W:World) (hL:L.length<=1000000) (h:Mp D W0 cv key mb L W) :
  Calls Tryz.prog 185 #[.pointer (some ⟨mb,2,none⟩),.string (k).1] W fun e w'=>(∃ q,w'=W.drewN q)/\∃ q,e=.returned (.tuple #[.pointer q,(Value.int .i64 ((below key k L:Int)))])/\Has M W (mb+1) (getL key k L) q:=by
 have hlt:=h.lt;obtain⟨t,p,c1,ht,hl⟩:=h.rt;have c0:=h.c0;have hso:Srt key t.toL:=hl▸h.srt;have hct:t=.nil∨Cmp D W0 cv key:=hcc.imp (fun e=>T.toL_nil (hl.trans e)) id;have fn:=aEr (mb+1) (by have:=h.dm;omega) k t p W.drew hct hso (by have:=bS hl;omega) hlt (h.bel.trans ((Below.refl _ W).drew.mono (by have:=h.dm;omega))) ht.drew;rw[hl] at fn;go_enter Tryz.func185,Tryz.ntmps185;go_wp2_with fail
 go_region_held3 (fun w=>w.cell? ⟨mb,2,none⟩=some (cv)/\w.cell? ⟨mb,3,none⟩=some (.pointer p)) (first|exact⟨c0,c1⟩) (first
  | (go_at_call 206;(with_reducible refine fn.mono ?_);rintro e x1 ⟨⟨q,rfl⟩,r,rfl,hh⟩))
 go_wp2_with fail;go_ret2;exact⟨⟨_,rfl⟩,r,rfl,hh.undrew⟩
def optV:Option Int->Value
 | none=>(Value.int .i64 0)
 | some u=>(Value.int .i64 (u))
theorem aGv {D:Nat} {W0:World} {cv:Value} {key:K M->Int} (mb:Nat) (L:List (K M×Int)) (hcc:L=[]∨Cmp D W0 cv key) (k:K M) (W:World) (hL:L.length<=1000000) (h:Mp D W0 cv key mb L W) :
  Calls Tryz.prog 168 #[.pointer (some ⟨mb,2,none⟩),.string (k).1] W fun e w'=>e=.returned (.tuple #[optV (getL key k L),.bool (getL key k L).isSome])/\Below W.heap.size W w':=by
 have fn:=aCk mb L hcc k W hL h;go_enter_defers Tryz.func168,Tryz.ntmps168;cases hg:getL key k L with
 | none =>
  rw[hg] at fn;go_wp2_with (go_at_call 185;(with_reducible refine fn.mono ?_);rintro e x1 ⟨⟨q,hx1⟩,r,rfl,hr⟩;have hb1:Below W.heap.size W x1:=hx1▸aG W q;clear hx1;obtain rfl:r=none:=hr);refine leaves_cons (f:=184) (args:=#[]) (by simp) (by simp[go_sem]) ?_;refine (vW _).mono ?_;rintro e u' w'' ⟨rfl,rfl,rfl⟩;exact⟨_,results_tmp2 rfl _ _ _,rfl,aB hb1 (aD _ _)⟩
 | some u =>
  rw[hg] at fn;go_wp2_with (go_at_call 185;(with_reducible refine fn.mono ?_);rintro e x1 ⟨⟨q,hx1⟩,r,rfl,hr⟩;subst x1;obtain⟨b,a,n,lp,rp,rfl,_,hn⟩:=hr;have c1:=(hn.later (aG W q)).c1;clear hn);refine leaves_cons (f:=184) (args:=#[]) (by simp) (by simp[go_sem]) ?_;refine (vW _).mono ?_;rintro e u' w'' ⟨rfl,rfl,rfl⟩;exact⟨_,results_tmp2 rfl _ _ _,rfl,aG W q⟩
variable {M:Nat}
theorem aGw (a b:ByteArray) (w:World):Calls Tryz.prog 192 #[.string a,.string b] w fun e w'=>e=.returned (Value.int .i64 (Lib.compareBytes a.data.toList b.data.toList))/\w'=w:=by
 go_enter Tryz.func192,Tryz.ntmps192
 go_wp2
 rw[run_callFunc_extern Tryz.func209 (by kernel_rfl) (by kernel_rfl) (by kernel_rfl) (e:=Extern.BytealgCompare.compare) (by kernel_rfl),Lib.run_compareString];simp only[Result.andThen];rw[Oper.upon_value]
 go_wp2
 go_ret;exact⟨rfl,rfl⟩
theorem oR (a b:ByteArray) (w:World):Calls Tryz.prog 173 #[.string a,.string b] w fun e w'=>e=.returned (Value.int .i64 (Lib.compareBytes a.data.toList b.data.toList))/\w'=w:=by
 have h:=aGw a b w;go_enter Tryz.func173,Tryz.ntmps173;go_wp2_with (go_at_call 192;(with_reducible refine h.mono ?_);rintro e w' ⟨rfl,hw⟩;subst hw);go_ret;exact⟨rfl,rfl⟩
abbrev cv19:Value:=.func (.func 173) #[] #[]
theorem aEE (D:Nat) (W0:World):Cmp (M:=M) D W0 cv19 keyOf :=
 ⟨173,#[],rfl,enters_of Tryz.func173 (by kernel_rfl) rfl,fun w a b _=>(oR a.1 b.1 w).mono (by
  rintro e w' ⟨rfl,rfl⟩;rw[qC];exact⟨rfl,0,rfl⟩)⟩
structure Dm (W0:World) (mb:Nat) (L:List (K M×Int)) (W:World):Prop where
 mp:∃ cv,Mp 0 W0 cv keyOf mb L W/\(L=[]∨cv=cv19)
 pos:∀ p∈L,1<=p.2/\p.2<=1000000
 len:L.length<=999999
theorem Dm.lt {W0 W:World} {mb:Nat} {L:List (K M×Int)} (h:Dm W0 mb L W):mb<W.heap.size:=by obtain⟨cv,h1,_⟩:=h.mp;exact h1.lt
theorem Dm.later {W0 W W':World} {mb:Nat} {L:List (K M×Int)} (h:Dm W0 mb L W) (hb:Below W.heap.size W W'):Dm W0 mb L W':=by
 obtain⟨cv,h1,h2⟩:=h.mp;exact⟨⟨cv,h1.later hb,h2⟩,h.pos,h.len⟩
theorem Dm.bel {W0 W:World} {mb:Nat} {L:List (K M×Int)} (h:Dm W0 mb L W):Below 0 W0 W:=by obtain⟨cv,h1,_⟩:=h.mp;exact h1.bel
def tm (s:K M) (L:List (K M×Int)):Int:=(getL keyOf s L).getD 0
def has (s:K M) (L:List (K M×Int)):Bool:=(getL keyOf s L).isSome
theorem aEF (s:K M) (L:List (K M×Int)):optV (getL keyOf s L)=(Value.int .i64 (tm s L)):=by
 unfold tm;cases getL keyOf s L <;> rfl
theorem sG {W0 W:World} {mb:Nat} {L:List (K M×Int)} (s:K M) (h:Dm W0 mb L W) :
  Calls Tryz.prog 168 #[.pointer (some ⟨mb,2,none⟩),.string s.1] W fun e w'=>e=.returned (.tuple #[(Value.int .i64 (tm s L)),.bool (has s L)])/\Below W.heap.size W w':=by
 obtain⟨cv,h1,h2⟩:=h.mp
 have:=aGv mb L (h2.imp id (fun e=>e▸aEE 0 W0)) s W (by have:=h.len;omega) h1
 rw[aEF] at this;exact this
theorem aAM {W0 W:World} {mb:Nat} {L:List (K M×Int)} (h:Dm W0 mb L W) :
  Calls Tryz.prog 171 #[.pointer (some ⟨mb,2,none⟩)] W fun e w'=>e=.returned (Value.int .i64 ((L.length:Int)))/\w'=W:=by
 obtain⟨cv,h1,h2⟩:=h.mp;exact aGu mb L W h1
theorem vX {s:K M} {v:Int}:∀ {L:List (K M×Int)},getL keyOf s L=some v->∃ p∈L,p.2=v
 | [],h=>by simp[getL] at h
 | (a,w)::r,h=>by
  rw[getL] at h;split at h
  ·cases h;exact⟨(a,v),by simp,rfl⟩
  ·obtain⟨p,hp,e⟩:=vX h;exact⟨p,by simp[hp],e⟩
theorem Dm.tm_bd {W0 W:World} {mb:Nat} {L:List (K M×Int)} (h:Dm W0 mb L W) (s:K M):0<=tm s L/\tm s L<=1000000/\(has s L=true↔1<=tm s L):=by
 unfold tm has;cases hg:getL keyOf s L with
 | none=>simp
 | some v =>
  obtain⟨p,hp,e⟩:=vX hg
  have:=h.pos p hp
  rw[e] at this
  simp;omega
theorem aGx {W0 W:World} {mb:Nat} {L:List (K M×Int)} (s:K M) (h:Dm W0 mb L W) :
  Calls Tryz.prog 170 #[.pointer (some ⟨mb,2,none⟩),.string s.1] W fun e w'=>e=.returned (.bool (has s L))/\Dm W0 mb (delL keyOf s L) w'/\Chm mb W w':=by
 obtain⟨cv,h1,h2⟩:=h.mp;refine (aGt mb L (h2.imp id (fun e=>e▸aEE 0 W0)) s W (by have:=h.len;omega) h1).mono ?_;rintro e w' ⟨rfl,m,c⟩;refine⟨rfl,⟨⟨cv,m,h2.imp (fun e=>by rw[e];rfl) id⟩,fun p hp=>h.pos p (nU hp),?_⟩,c⟩
 have:=eS (key:=keyOf) (k:=s) (L:=L)
 have:=h.len
 omega
theorem vY {s:K M} {v:Int} {Q:Int->Prop} (hv:Q v):∀ {L:List (K M×Int)},(∀ p∈L,Q p.2)->∀ p∈insL keyOf s v L,Q p.2
 | [],_,p,hp=>by rw[insL,List.mem_singleton] at hp;rw[hp];exact hv
 | (a,w)::r,h,p,hp=>by
  rw[insL] at hp;split at hp
  ·rcases List.mem_cons.1 hp with rfl|hp
   ·exact hv
   ·exact h p hp
  ·split at hp
   ·rcases List.mem_cons.1 hp with rfl|hp
    ·exact h (a,w) (by simp)
    ·exact vY hv (fun p hp=>h p (by simp[hp])) p hp
   ·rcases List.mem_cons.1 hp with rfl|hp
    ·exact hv
    ·exact h p (by simp[hp])
theorem oS {W0 W:World} {mb:Nat} {L:List (K M×Int)} (s:K M) (v:Int) (hv:1<=v/\v<=1000000) (hl:L.length+1<=999999) (hm:Mp 0 W0 cv19 keyOf mb L W) (hpos:∀ p∈L,1<=p.2/\p.2<=1000000) :
  Calls Tryz.prog 169 #[.pointer (some ⟨mb,2,none⟩),.string s.1,.int .i64 (v)] W fun e w'=>e=.returned (.bool (!has s L))/\Dm W0 mb (insL keyOf s v L) w'/\Chm mb W w':=by
 refine (aGs (aEE 0 W0) mb L s v W (by omega) hm).mono ?_;rintro e w' ⟨rfl,m,c⟩;refine⟨?_,⟨⟨cv19,m,.inr rfl⟩,vY (Q:=fun v=>1<=v/\v<=1000000) hv hpos,?_⟩,c⟩
 ·unfold has;cases getL keyOf s L <;> rfl
 have:=eR (v:=v) (k:=s) hm.srt
 split at this <;> omega
variable {M:Nat}
theorem oT {P:Program} {w:World} {m:Mode} {ad:Addr} (f:Fn) (a b:Array Value):(store ad (.func f a b) m).run P w=stored P w ad (.func f a b) m:=run_store P w ad _ m rfl
attribute [local go_sem] oT
theorem gA (mb:Nat) (W:World):Calls Tryz.prog 167 #[.pointer (some ⟨mb,2,none⟩)] W fun e w'=>e=.returned (Value.pointer (some ⟨mb,2,none⟩))/\w'=W:=by
 go_enter Tryz.func167,Tryz.ntmps167
 go_wp2
 go_ret;exact⟨rfl,rfl⟩
theorem aCl {W0 W x1:World} {mb:Nat} {cv:Value} (h:Mp (M:=M) 0 W0 cv keyOf mb [] W) (hx:Below W.heap.size W x1) :
  Mp (M:=M) 0 W0 cv19 keyOf mb [] ((x1.setCell ⟨mb,2,none⟩ cv19).setCell ⟨mb,3,none⟩ (.pointer none))/\Chm mb W ((x1.setCell ⟨mb,2,none⟩ cv19).setCell ⟨mb,3,none⟩ (.pointer none)):=by
 have h1:=h.later hx;obtain⟨t,p,d1,d2,d3⟩:=h1.rt;have c0:=h1.c0;refine⟨⟨Nat.zero_le _,?_,⟨.nil,none,?_,rfl,rfl⟩,fun j=>by rw[World.frozen?_setCell,World.frozen?_setCell];exact h1.fz j,Srt.nil,?_,(h1.ty.set 2 _).set 3 _⟩,?_,fun j hj2 hj3=>?_⟩
 ·rw[World.cell?_setCell_other _ _ _ _ (by simp)];exact World.cell?_setCell_same _ _ _ c0
 ·refine World.cell?_setCell_same (u:=.pointer p) _ _ _ ?_;rw[World.cell?_setCell_other _ _ _ _ (by simp)];exact d1
 ·exact (h1.bel.setCell (Nat.zero_le _) _).setCell (Nat.zero_le _) _
 ·exact ((Chg.of_below (S:=fun b=>b=mb) hx).setCell (fun _=>rfl) _).setCell (fun _=>rfl) _
 rw[World.cell?_setCell_other _ _ _ _ (fun e=>hj3 (by cases e;rfl)),World.cell?_setCell_other _ _ _ _ (fun e=>hj2 (by cases e;rfl))];exact World.cell?_of_block (w:=W) (hx.block mb h.lt)
theorem mk0 {W0 W:World} {mb:Nat} (h:Mp (M:=M) 0 W0 cv19 keyOf mb [] W):Dm (M:=M) W0 mb [] W:=⟨⟨cv19,h,.inr rfl⟩,fun p hp=>by simp at hp,by simp⟩
theorem dD {W0 W:World} {mb:Nat} {L:List (K M×Int)} (s:K M) (h:Dm W0 mb L W) (hl:L.length+1<=999999) (ht:tm s L+1<=1000000) :
  Calls Tryz.prog 146 #[.pointer (some ⟨mb,2,none⟩),.string s.1] W fun e w'=>e=.returned (.bool (!has s L))/\Dm W0 mb (insL keyOf s (tm s L+1) L) w'/\Chm mb W w':=by
 obtain⟨cv,h1,h2⟩:=h.mp;have hbd:=h.tm_bd s;have hpos:=qAq h.pos;have hlen:=aAM h;have hlt0:=h.lt;by_cases he:L=[]
 ·subst he;have hb1:=h.bel;obtain⟨hb,hhb⟩:∃ hb,W.heap.size=hb:=⟨_,rfl⟩;have hnew:=aGr 173 #[] W;rw[hhb] at hnew;have hmb:=h.lt;obtain⟨t,p,d1,d2,d3⟩:=h1.rt;have HX:=(fun x1 (hx:Below W.heap.size W x1)=>aCl h1 hx);have hz:=(fun x1 (hx:Below W.heap.size W x1)=>h1.later hx);have e0:tm s ([]:List (K M×Int))=0:=rfl;have e1:has s ([]:List (K M×Int))=false:=rfl;have hg0:∀ y,Mp (M:=M) 0 W0 cv19 keyOf mb [] y->Calls Tryz.prog 168 #[.pointer (some ⟨mb,2,none⟩),.string s.1] y fun e w'=>e=.returned (.tuple #[(Value.int .i64 (0)),.bool false])/\Below y.heap.size y w':=fun y m=>sG s (mk0 m)
  rw[e0,e1];clear hbd ht hl h2 hpos d1 d2 d3 e0 e1;go_enter Tryz.func146,Tryz.ntmps146
  go_wp2_with (first
   | (go_at_call 171;(with_reducible refine hlen.mono ?_);rintro e w' ⟨rfl,hw⟩;subst w')
   | (go_at_call 172;(with_reducible refine hnew.mono ?_);rintro e x1 ⟨rfl,k0,k1,b1⟩;rw[<- hhb] at b1;obtain⟨n1,g1⟩:=HX x1 b1;have z1:=hz x1 b1;have y0:=z1.c0;obtain⟨_,pp,y1,_,_⟩:=z1.rt;have f0:=z1.fz 2;have f1:=z1.fz 3)
   | (go_at_call 168;(with_reducible refine (hg0 _ n1).mono ?_);rintro e x2 ⟨rfl,b2⟩;have n2:=n1.later b2;have hput:Calls Tryz.prog 169 #[.pointer (some ⟨mb,2,none⟩),.string s.1,.int .i64 (1)] x2 fun e w'=>e=.returned (.bool true)/\Dm W0 mb (insL keyOf s (0+1) []) w'/\Chm mb x2 w':=oS (L:=[]) s 1 (by omega) (by simp) n2 (by simp))
   | (go_at_call 169;(with_reducible refine hput.mono ?_);rintro e x3 ⟨rfl,d3,c3⟩))
  go_ret;exact⟨rfl,d3,(g1.trans (Chm.of_below n1.lt b2)).trans c3⟩
 have hcv:cv=cv19:=h2.resolve_left he;subst hcv;have hne:L.length≠0:=(fun e=>he (List.length_eq_zero_iff.1 e));obtain⟨zl,hzl⟩:∃ zl,L.length=zl:=⟨_,rfl⟩;rw[hzl] at hlen hne;have hle:decide ((zl:Int)=0)=false:=decide_eq_false (by omega);have hbe:((zl:Int)==0)=false:=(by simp;omega);have hget:=sG s h;obtain⟨tv,htv⟩:∃ tv,tm s L=tv:=⟨_,rfl⟩;obtain⟨hv,hhv⟩:∃ hv,has s L=hv:=⟨_,rfl⟩;have hput:=(fun x (hx:Below W.heap.size W x)=>oS s (tm s L+1) (by omega) hl (h1.later hx) hpos.out);rw[htv,hhv] at hget hput ⊢;rw[htv] at hbd ht;have hwt:IntKind.i64.wrap (tv+1)=tv+1:=(by rw[IntKind.wrap_i64];omega);have HT:=qAq htv;have HH:=qAq hhv;clear htv hhv hzl he h2 h1 hpos;go_enter Tryz.func146,Tryz.ntmps146
 go_wp2_with (first
  | (go_at_call 171;(with_reducible refine hlen.mono ?_);rintro e w' ⟨rfl,hw⟩;subst w')
  | (go_at_call 168;(with_reducible refine hget.mono ?_);rintro e x2 ⟨rfl,b2⟩)
  | (go_at_call 169;(with_reducible refine (hput _ b2).mono ?_);rintro e x3 ⟨rfl,d3,c3⟩))
 go_ret;exact⟨rfl,d3,(Chm.of_below hlt0 b2).trans c3⟩
variable {M:Nat}
def takeL (s:K M) (L:List (K M×Int)):List (K M×Int):=if 1<tm s L then insL keyOf s (tm s L-1) L else delL keyOf s L
theorem sH (s:K M):tm s []=0:=rfl
theorem aEG {W0 W:World} {mb:Nat} {L:List (K M×Int)} (s:K M) (h:Dm W0 mb L W) (hl:L.length+1<=999999) :
  Calls Tryz.prog 145 #[.pointer (some ⟨mb,2,none⟩),.string s.1] W fun e w'=>e=.returned (.bool (has s L))/\Dm W0 mb (takeL s L) w'/\Chm mb W w':=by
 obtain⟨cv,h1,h2⟩:=h.mp;have hbd:=h.tm_bd s;have hpos:=qAq h.pos;have hget:=sG s h;have hall:=gA mb W;have hlt0:=h.lt;obtain⟨hv,hhv⟩:∃ hv,has s L=hv:=⟨_,rfl⟩;unfold takeL;by_cases ht:1<tm s L
 ·have hcv:cv=cv19:=h2.resolve_left (fun e=>by rw[e,sH] at ht;omega);subst hcv;have hput:=(fun x (hx:Below W.heap.size W x)=>oS s (tm s L-1) (by omega) hl (h1.later hx) hpos.out);rw[if_pos ht];have hh1:has s L=true:=hbd.2.2.2 (by omega);obtain⟨tv,htv⟩:∃ tv,tm s L=tv:=⟨_,rfl⟩;rw[htv] at hget hput hbd ht ⊢;rw[hh1] at hget ⊢;have hwt:IntKind.i64.wrap (tv-1)=tv-1:=(by rw[IntKind.wrap_i64];omega);have hdt:decide (1<tv)=true:=decide_eq_true ht;clear htv hh1 hhv h1 h2 hbd hpos;go_enter Tryz.func145,Tryz.ntmps145
  go_wp2_with (first
   | (go_at_call 167;(with_reducible refine hall.mono ?_);rintro e w' ⟨rfl,hw⟩;subst w')
   | (go_at_call 168;(with_reducible refine hget.mono ?_);rintro e x2 ⟨rfl,b2⟩)
   | (go_at_call 169;(with_reducible refine (hput _ b2).mono ?_);rintro e x3 ⟨rfl,d3,c3⟩))
  go_ret;exact⟨rfl,d3,(Chm.of_below hlt0 b2).trans c3⟩
 rw[if_neg ht];have hdel:=(fun x (hx:Below W.heap.size W x)=>aGx s (h.later hx));obtain⟨tv,htv⟩:∃ tv,tm s L=tv:=⟨_,rfl⟩;rw[htv] at hget ht;have hdt:decide (1<tv)=false:=decide_eq_false ht;clear htv hhv h1 h2 hbd hpos;go_enter Tryz.func145,Tryz.ntmps145
 go_wp2_with (first
  | (go_at_call 167;(with_reducible refine hall.mono ?_);rintro e w' ⟨rfl,hw⟩;subst w')
  | (go_at_call 168;(with_reducible refine hget.mono ?_);rintro e x2 ⟨rfl,b2⟩)
  | (go_at_call 170;(with_reducible refine (hdel _ b2).mono ?_);rintro e x3 ⟨rfl,d3,c3⟩))
 go_ret;exact⟨rfl,d3,(Chm.of_below hlt0 b2).trans c3⟩
theorem aEH {W0 W:World} {mb:Nat} {L:List (K M×Int)} (h:Dm W0 mb L W) :
  Calls Tryz.prog 149 #[.pointer (some ⟨mb,2,none⟩)] W fun e w'=>e=.returned (Value.int .i64 ((L.length:Int)))/\w'=W:=by
 have hlen:=aAM h;have hall:=gA mb W;go_enter Tryz.func149,Tryz.ntmps149
 go_wp2_with (first
  | (go_at_call 167;(with_reducible refine hall.mono ?_);rintro e w' ⟨rfl,hw⟩;subst w')
  | (go_at_call 171;(with_reducible refine hlen.mono ?_);rintro e w' ⟨rfl,hw⟩;subst w'))
 go_ret;exact⟨rfl,rfl⟩
end Go.Proofs.YthlccadnojnkaaaGreat.Co.S
namespace Go.Proofs.YthlccadnojnkaaaGreat.Co
open Go Go.Proofs
section
variable {M:Nat}
theorem lZ {a b:K M} (h:keyOf a=keyOf b):a=b:=Subtype.ext (aBS.1 h)
def SrtK (l:List (K M)):Prop:=l.Pairwise (fun a b=>keyOf a<keyOf b)
abbrev keys (L:List (K M×Int)):List (K M):=L.map Prod.fst
theorem vZ {L:List (K M×Int)} (h:Srt keyOf L):SrtK (keys L):=by
 unfold SrtK;rw[List.pairwise_map];exact h
namespace S
theorem aAN {s:K M}:∀ {L:List (K M×Int)},has s L=true↔s∈keys L
 | []=>by simp[has,getL]
 | (a,w)::r=>by
  have ih:=aAN (s:=s) (L:=r);unfold has at ih ⊢;rw[getL];by_cases h:keyOf a=keyOf s
  ·rw[if_pos h,lZ h];simp
  ·have hn:s≠a:=(fun e=>h (by rw[e]));rw[if_neg h,ih];simp[hn]
theorem cS (s a:K M) (w:Int) (r:List (K M×Int)):tm s ((a,w)::r)=if a=s then w else tm s r:=by
 unfold tm;rw[getL];by_cases h:keyOf a=keyOf s
 ·rw[if_pos h,if_pos (lZ h)];rfl
 have hn:a≠s:=(fun e=>h (by rw[e]));rw[if_neg h,if_neg hn]
theorem wB {s:K M}:∀ {L:List (K M×Int)},(∀ p∈L,keyOf s<keyOf p.1)->tm s L=0
 | [],_=>rfl
 | (a,w)::r,h=>by
  have h1:keyOf s<keyOf a:=h (a,w) (by simp);rw[cS,if_neg (fun e=>by rw[e] at h1;omega),wB (fun p hp=>h p (by simp[hp]))]
theorem yZ (s:K M) (v:Int) (t:K M):∀ {L:List (K M×Int)},Srt keyOf L->tm t (insL keyOf s v L)=if s=t then v else tm t L
 | [],_=>by rw[insL,cS,sH]
 | (a,w)::r,h=>by
  unfold Srt at h;rw[List.pairwise_cons] at h;have ih:=yZ s v t h.2;rw[insL];by_cases h1:keyOf s<keyOf a
  ·rw[if_pos h1,cS]
  ·by_cases h2:keyOf a<keyOf s
   ·rw[if_neg h1,if_pos h2,cS,ih,cS];by_cases h3:a=t
    ·have:¬ s=t:=(fun e=>by rw[<- h3] at e;rw[e] at h2;omega);rw[if_pos h3,if_neg this,if_pos h3]
    ·rw[if_neg h3];by_cases h4:s=t
     ·rw[if_pos h4,if_pos h4]
     ·rw[if_neg h4,if_neg h4,if_neg h3]
   ·have he:a=s:=lZ (by omega);subst he;rw[if_neg h1,if_neg h2,cS,cS];by_cases h3:a=t
    ·rw[if_pos h3,if_pos h3]
    ·rw[if_neg h3,if_neg h3,if_neg h3]
theorem aEI (s t:K M):∀ {L:List (K M×Int)},Srt keyOf L->tm t (delL keyOf s L)=if s=t then 0 else tm t L
 | [],_=>by rw[delL,sH];split <;> rfl
 | (a,w)::r,h=>by
  unfold Srt at h;rw[List.pairwise_cons] at h;have ih:=aEI s t h.2;rw[delL];by_cases h1:keyOf a=keyOf s
  ·have he:a=s:=lZ h1;subst he;rw[if_pos h1,cS];by_cases h3:a=t
   ·subst h3;rw[if_pos rfl];exact wB (fun p hp=>h.1 p hp)
   ·rw[if_neg h3,if_neg h3]
  ·rw[if_neg h1,cS,ih,cS];by_cases h3:a=t
   ·have:¬ s=t:=(fun e=>h1 (by rw[h3,e]));rw[if_pos h3,if_neg this,if_pos h3]
   ·rw[if_neg h3,if_neg h3]
def cnt (s:K M) (l:List (K M)):Nat:=(l.filter (fun t=>decide (t=s))).length
def Cnt (l:List (K M)) (L:List (K M×Int)):Prop:=∀ s,tm s L=(cnt s l:Int)
theorem Dm.srt {W0 W:World} {mb:Nat} {L:List (K M×Int)} (h:Dm W0 mb L W):Srt keyOf L:=by obtain⟨cv,h1,_⟩:=h.mp;exact h1.srt
theorem aEJ (s:K M) {L:List (K M×Int)} (h:Srt keyOf L):Srt keyOf (takeL s L):=by
 unfold takeL;split
 ·exact h.ins
 exact h.del
theorem aAO (s t:K M) {L:List (K M×Int)} (h:Srt keyOf L) (hp:0<=tm s L):tm t (takeL s L)=if s=t then (if 1<=tm s L then tm s L-1 else 0) else tm t L:=by
 unfold takeL;by_cases h1:1<tm s L
 ·rw[if_pos h1,yZ s _ t h];by_cases e:s=t
  ·rw[if_pos e,if_pos e,if_pos (by omega)]
  rw[if_neg e,if_neg e]
 rw[if_neg h1,aEI s t h];by_cases e:s=t
 ·rw[if_pos e,if_pos e];split <;> omega
 rw[if_neg e,if_neg e]
theorem wC (s:K M) {L:List (K M×Int)} (h:Srt keyOf L):(takeL s L).length<=L.length:=by
 unfold takeL;split
 ·rename_i h1
  have:=eR (v:=tm s L-1) (k:=s) h
  have hs:(getL keyOf s L).isSome=true:=by
   unfold tm at h1;cases hg:getL keyOf s L with
   | none=>rw[hg] at h1;simp at h1
   | some v=>rfl
  rw[if_pos hs] at this;omega
 have:=eS (key:=keyOf) (k:=s) (L:=L)
 omega
theorem Dm.ty {W0 W:World} {mb:Nat} {L:List (K M×Int)} (h:Dm W0 mb L W):Ty W mb:=by obtain⟨cv,h1,_⟩:=h.mp;exact h1.ty
theorem Tr.of_nodes {W W':World} {B:Nat} (hb:∀ (b:Nat) (cs:Array Value),W.heap[b]?=some (Obj.cells cs 220)->W'.heap[b]?=W.heap[b]?):∀ {t:T (K M) Int} {p:Option Addr},Tr W B t p->Tr W' B t p
 | .nil,_,h=>h
 | .nd _ _ _ _,_,⟨b,lp,rp,h1,h2,h3,h4,h5⟩=>⟨b,lp,rp,h1,h2,(hb b _ h3).trans h3,Tr.of_nodes hb h4,Tr.of_nodes hb h5⟩
end S
end
