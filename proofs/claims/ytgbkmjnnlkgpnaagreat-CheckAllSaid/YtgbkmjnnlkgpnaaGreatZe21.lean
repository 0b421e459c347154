import Derived.Test.YtgbkmjnnlkgpnaaGreatZe20
import Derived.Laws.OwnMore
set_option maxHeartbeats 2000000
set_option maxRecDepth 100000
namespace Go.Proofs.YtgbkmjnnlkgpnaaGreat
open Go Go.RowKit Go.Proofs Co Co.S
theorem aHc (n q:Nat) (h:q<n):(cells3 (List.replicate n z3))[q*3]?=some (.int .i64 0)/\(cells3 (List.replicate n z3))[q*3+1]?=some (.int .i64 0)/\(cells3 (List.replicate n z3))[q*3+2]?=some (.string ⟨#[]⟩):=by
 have:=eX (List.replicate n z3) q (by simpa using h)
 simpa using this
theorem made3 (n:Nat):(madeCells #[Value.int .i64 0,Value.int .i64 0,Value.string ⟨#[]⟩] (n*3)).toList=cells3 (List.replicate n z3):=by
 apply List.ext_getElem?;intro i;by_cases hi:i<n*3
 ·have hq:i / 3<n:=(by omega);obtain⟨h0,h1,h2⟩:=aHc n (i / 3) hq;have hm:i=i / 3*3∨i=i / 3*3+1∨i=i / 3*3+2:=(by omega);rcases hm with hm|hm|hm
  ·rw[show (cells3 (List.replicate n z3))[i]?=some (.int .i64 0) by rw[hm];exact h0];have hr:i % 3=0:=(by omega);simp[madeCells,hi,hr]
  ·rw[show (cells3 (List.replicate n z3))[i]?=some (.int .i64 0) by rw[hm];exact h1];have hr:i % 3=1:=(by omega);simp[madeCells,hi,hr]
  rw[show (cells3 (List.replicate n z3))[i]?=some (.string ⟨#[]⟩) by rw[hm];exact h2];have hr:i % 3=2:=(by omega);simp[madeCells,hi,hr]
 rw[List.getElem?_eq_none (by simp[madeCells];omega),List.getElem?_eq_none (by rw[gI];simp;omega)]
theorem aBu (n:Nat) (hn:n<=65536) (w:World):∃ w',(Instr.makeSlice 45 (.int .i64 (n:Int)) (.int .i64 (n:Int))).run Tryz.prog w=.ok (.slice (some ⟨w.heap.size,0,none⟩) n n) w'/\HRow w' w.heap.size 42 3 (.slice (some ⟨w.heap.size,0,none⟩) n n) n (cells3 (List.replicate n z3))/\w.grownBy w' none:=by
 obtain⟨i0,hi0,hz0,hz1,hz2⟩:=info_parts xP;obtain⟨w',h1,h2,h3⟩:=run_make_full (P:=Tryz.prog) w w.heap.size 45 42 i0 _ 3 Tryz.underlying45 hi0 hz0 hz1 .i64 .i64 n (by rw[hz2];omega) (by unfold maxLen;omega) (Nat.le_refl _);refine⟨w',h1,?_,h3⟩;rw[<- made3];exact HRow.of_own h2
section
variable {W W':World} {tb next:Nat} {t:T} {i:In} {lab:Nat->Nat}
theorem aCT (h:TbM W tb t next i lab) {x:Int} (hx:F64 x) {p:Nat} (hf:i.f x=some p) (hp:∀ k,k<t.cols.length->p<(i.cl k).length) (hc:t.cols.length<=1000) (h0:0<t.cols.length) :
  Calls Tryz.prog 75 #[.pointer (some ⟨tb,0,none⟩),.int .i64 x] W fun e w'=>∃ g c,e=.returned (.tuple #[.slice (some ⟨g,0,none⟩) t.cols.length c,.bool true])/\W.heap.size<=g/\HRow w' W.heap.size 42 3 (.slice (some ⟨g,0,none⟩) t.cols.length c) t.cols.length (cells3 (rowOf i.cl t.cols.length p))/\Below W.heap.size W w':=by
 have ha:=gO h hx;rw[hf] at ha;simp only[Option.getD_some,Option.isSome_some] at ha;obtain⟨w1,hmk,hr1,hg1⟩:=aBu t.cols.length (by omega) W;have hb1:Below W.heap.size W w1:=⟨hg1.os,hg1.tape,hg1.output,hg1.size,fun k hk=>hg1.block k hk (by simp)⟩;obtain⟨gc,cc,hcv,hn1,hn2,hgl,_⟩:=h.ptr h0;obtain⟨n,hn⟩:∃ n,t.cols.length=n:=⟨_,rfl⟩;have c4:=h.cells.2.2.2.2.1;have zl:=h.tlt;have z1:tb<w1.heap.size:=Nat.lt_of_lt_of_le zl hb1.size;have c4':=(h.later hb1).cells.2.2.2.2.1;rw[hcv] at c4 c4';obtain⟨cl,hcl⟩:∃ cl,i.cl=cl:=⟨_,rfl⟩;rw[hcl] at hp ⊢;obtain⟨mb,hmb⟩:∃ mb,W.heap.size=mb:=⟨_,rfl⟩
 have HX:Hid (∀ w k,k<n->Below w1.heap.size w1 w∨Below mb w1 w->w.cell? ⟨gc,k,none⟩=some (.pointer (some ⟨i.cb k,0,none⟩))/\gc<w.heap.size/\∃ (hpk:p<(cl k).length),Calls Tryz.prog 96 #[.pointer (some ⟨i.cb k,0,none⟩),.int .i64 (p:Int)] w fun e w'=>e=.returned (.tuple #[(Value.agg #[Value.int .i64 ((cl k)[p].1),Value.int .i64 ((cl k)[p].2.1),Value.string ((cl k)[p].2.2)]),.bool true])/\Below w.heap.size w w'):=qAq (fun w k hk hw=>by
  have hw2:Below W.heap.size W w:=by
   rcases hw with hw|hw
   ·exact aB hb1 hw
   exact hb1.trans (hw.mono (Nat.le_of_eq hmb))
  have h2:=h.later hw2;obtain⟨g',c',e,_,_,k1,k2⟩:=h2.ptr (hn▸hk);rw[hcv] at e;cases e;have hpk:=hp k (hn▸hk);refine⟨k2,k1,hpk,?_⟩;have hcol:=h2.col k (hn▸hk);rw[hcl] at hcol;exact aCx hcol p hpk)
 have HL:=qAq (qBq hp hb1);rw[hn] at hmk hr1 hp hn1 c4 c4' hc ⊢;rw[hmb] at hmk hr1;have HM:=qAq (qBq hmb hn);have hrl:(rowOf cl n p).length=n:=dQ _ _ _;have HR1:=qAq (qBq hr1 hrl);unfold maxLen at hn2;clear h hf hx hr1 hg1 hcv hcl hmb hn hp hrl hb1;go_enter Tryz.func75,Tryz.ntmps75;go_wp2_with (go_at_call 63;(with_reducible refine ha.mono ?_);rintro e w2 ⟨rfl,hw2⟩;subst w2);go_loopg [30] (n+1) (fun gh jv w=>∃ (j:Nat) (X:List T3),jv=.int .i64 (j:Int)/\j<=n/\n+1<=j+gh/\X.length=n/\X.take j=(rowOf cl n p).take j/\HRow w mb 42 3 (.slice (some ⟨mb,0,none⟩) n n) n (cells3 X)/\Below mb w1 w)
 case atStart=>exact⟨0,List.replicate n z3,rfl,Nat.zero_le _,by omega,by simp,rfl,HR1.out.1,Below.refl _ _⟩
 obtain⟨j,X,rfl,hj,hg,hX,htk,hR,hB⟩:=hrel;by_cases hlt:j<n
 ·obtain⟨d0,d1,hpk,hcall⟩:=HX.out wr j hlt (.inr hB);have hjX:j<X.length:=by omega
  have hset:(X.set j (cl j)[p]).take (j+1)=(rowOf cl n p).take (j+1):=by
   have e1:(rowOf cl n p)[j]'(by rw[dQ];exact hlt)=(cl j)[p]:=by
    have:=dY cl (p:=p) hlt
    rw[qQq (by rw[dQ];exact hlt),qQq hpk] at this;simpa using this
   rw[List.take_succ_eq_append_getElem (by simpa using hjX),List.take_succ_eq_append_getElem (by rw[dQ];exact hlt),List.take_set,List.set_eq_of_length_le (by simp;omega),htk,List.getElem_set_self,e1]
  obtain⟨y,hy⟩:∃ y,(cl j)[p]=y:=⟨_,rfl⟩;rw[hy] at hcall hset;obtain⟨yk,yn,ys⟩:=y;simp only at hcall;have HRR:=qAq (qBq hR (qBq hB (qBq hX hset)));have hji:(j:Int)<(n:Int):=(by omega);have hgl2:=(hR.lt mb rfl).2;clear hR hB hX htk hset hy hjX;go_wp2_with (go_at_call 96;(with_reducible refine hcall.mono ?_);rintro e w3 ⟨rfl,hb3⟩;have hR3:=HRR.out.1.later hb3;obtain⟨q0,q1,q2⟩:=eX X j (by rw[HRR.out.2.2.1];exact hlt);have v0:=hR3.cell q0;have v1:=hR3.cell q1;have v2:=hR3.cell q2;have f0:=hR3.frozenAt (j*3);have f1:=hR3.frozenAt (j*3+1);have f2:=hR3.frozenAt (j*3+2);have zl3:=(hR3.lt mb rfl).2;have H3:=qAq (qBq hR3 hb3);clear hR3 hb3 q0 q1 q2);have hrs:=sK H3.out.1 HRR.out.2.2.1 j hlt yk yn ys
  have hbel:Below mb w1 (((w3.setCell ⟨mb,j*3,none⟩ (.int .i64 yk)).setCell ⟨mb,j*3+1,none⟩ (.int .i64 yn)).setCell ⟨mb,j*3+2,none⟩ (.string ys)) :=
   (((HRR.out.2.1.trans (H3.out.2.mono (by omega))).setCell (p:=⟨mb,j*3,none⟩) (Nat.le_refl _) _).setCell (p:=⟨mb,j*3+1,none⟩) (Nat.le_refl _) _).setCell (p:=⟨mb,j*3+2,none⟩) (Nat.le_refl _) _
  generalize ((w3.setCell _ _).setCell _ _).setCell _ _=w4 at hrs hbel ⊢;have H4:=qAq (qBq hrs.1 hbel);clear hrs hbel;go_wp2_with fail;go_roundg (n-j)
  case measure=>omega
  exact⟨j+1,X.set j (yk,yn,ys),by go_num,by omega,by omega,by rw[List.length_set];exact HRR.out.2.2.1,HRR.out.2.2.2,H4.out.1,H4.out.2⟩
 obtain rfl:j=n:=(by omega);have hXe:X=rowOf cl j p:=(by rw[<- List.take_of_length_le (l:=X) (Nat.le_of_eq hX),htk,List.take_of_length_le (Nat.le_of_eq HR1.out.2)]);subst hXe;have HF:=qAq (qBq hR hB);clear hR hB hX htk;go_wp2_with fail;go_ret2;rw[HM.out.1];exact⟨mb,j,rfl,Nat.le_refl _,HF.out.1,(HM.out.1▸HL.out.2).trans HF.out.2⟩
theorem aEQ (h:TbM W tb t next i lab) {x:Int} (hx:F64 x) {y:ByteArray} (hf:i.f x=none∨ixC t.cols y=-1):Calls Tryz.prog 118 #[.pointer (some ⟨tb,0,none⟩),.int .i64 x,.string y] W fun e w'=>e=.returned (.tuple #[(Value.agg #[Value.int .i64 (0),Value.int .i64 (0),Value.string (⟨#[]⟩)]),.bool false])/\Below W.heap.size W w':=by
 have hb:=aC W (.cells #[.int .i64 0,.int .i64 0,.string ⟨#[]⟩] 42);have hk:=qOq W (.cells #[.int .i64 0,.int .i64 0,.string ⟨#[]⟩] 42);have h1:=h.later hb;have ha:=gO h1 hx;have hc:=iJ h1 y;have HB:=qAq (qBq hb hk);clear hb hk h h1;cases hfx:i.f x with
 | none =>
  rw[hfx] at ha;clear hc hfx hf;go_enter Tryz.func118,Tryz.ntmps118;go_wp2_with (go_at_call 63;(with_reducible refine ha.mono ?_);rintro e w2 ⟨rfl,hw2⟩;subst w2);refine bodyPost_ret (v:=.tuple #[(Value.agg #[Value.int .i64 (0),Value.int .i64 (0),Value.string (⟨#[]⟩)]),.bool false]) (by simp[results,Tryz.results118,go_sem]) rfl ?_;exact⟨rfl,by first|exact HB.out.1|exact ((HB.out.1.setCell (Nat.le_refl _) _).setCell (Nat.le_refl _) _).setCell (Nat.le_refl _) _⟩
 | some p =>
  have hy:ixC t.cols y=-1:=hf.resolve_left (by rw[hfx];simp);rw[hfx] at ha;rw[hy] at hc;simp only[Option.getD_some,Option.isSome_some] at ha;have hd:decide (0<=(-1:Int))=false:=(by decide);rw[hd] at hc;clear hfx hf hy hd;generalize ((p:Nat):Int)=pp at ha;go_enter Tryz.func118,Tryz.ntmps118
  go_wp2_with (first
   | (go_at_call 63;(with_reducible refine ha.mono ?_);rintro e w2 ⟨rfl,hw2⟩;subst w2)
   | (go_at_call 67;(with_reducible refine hc.mono ?_);rintro e w3 ⟨rfl,hb3⟩;have hx3:=aD hb3 HB.out.2;have z0:=aA hx3 0;have z1:=aA hx3 1;have z2:=aA hx3 2;have zf:=fun i=>frozen_of_row w3 W.heap.size i _ _ hx3;have zl:=lt_of_heap hx3;have HX:=qAq (qBq (aB HB.out.1 hb3) hx3);clear hx3 hb3))
  have hS:=uL HX.out.2 (.int .i64 0) (.int .i64 0) (.string ⟨#[]⟩);have hBel:=((HX.out.1.setCell (p:=⟨W.heap.size,0,none⟩) (Nat.le_refl _) (.int .i64 0)).setCell (p:=⟨W.heap.size,1,none⟩) (Nat.le_refl _) (.int .i64 0)).setCell (p:=⟨W.heap.size,2,none⟩) (Nat.le_refl _) (.string ⟨#[]⟩);generalize ((w3.setCell _ _).setCell _ _).setCell _ _=wz at hS hBel ⊢;have y0:=aA hS 0;have y1:=aA hS 1;have y2:=aA hS 2;refine bodyPost_ret (v:=.tuple #[(Value.agg #[Value.int .i64 (0),Value.int .i64 (0),Value.string (⟨#[]⟩)]),.bool false]) (by simp[results,Tryz.results118,go_sem,y0,y1,y2]) rfl ?_;exact⟨rfl,hBel⟩
theorem aCU (h:TbM W tb t next i lab) {x:Int} (hx:F64 x) {y:ByteArray} {p k:Nat} (hf:i.f x=some p) (hk:k<t.cols.length) (hy:ixC t.cols y=(k:Int)) (hp:p<(i.cl k).length) {u:T3} (hu:(i.cl k)[p]?=some u) :
  Calls Tryz.prog 118 #[.pointer (some ⟨tb,0,none⟩),.int .i64 x,.string y] W fun e w'=>e=.returned (.tuple #[(Value.agg #[Value.int .i64 (u.1),Value.int .i64 (u.2.1),Value.string (u.2.2)]),.bool true])/\Below W.heap.size W w':=by
 have hb:=aC W (.cells #[.int .i64 0,.int .i64 0,.string ⟨#[]⟩] 42);have hk0:=qOq W (.cells #[.int .i64 0,.int .i64 0,.string ⟨#[]⟩] 42);have h1:=h.later hb;have ha:=gO h1 hx;have hc:=iJ h1 y;rw[hf] at ha;rw[hy] at hc;simp only[Option.getD_some,Option.isSome_some] at ha;have hd:decide (0<=(k:Int))=true:=(by simp);rw[hd] at hc;obtain⟨g,c,hcv,n1,n2,_⟩:=h.ptr hk;obtain⟨n,hn⟩:∃ n,t.cols.length=n:=⟨_,rfl⟩
 have HX:Hid (∀ w,Below W.heap.size W w->w.cell? ⟨tb,4,none⟩=some (.slice (some ⟨g,0,none⟩) n c)/\w.cell? ⟨g,k,none⟩=some (.pointer (some ⟨i.cb k,0,none⟩))/\tb<w.heap.size/\g<w.heap.size/\Calls Tryz.prog 96 #[.pointer (some ⟨i.cb k,0,none⟩),.int .i64 (p:Int)] w fun e w'=>e=.returned (.tuple #[(Value.agg #[Value.int .i64 (u.1),Value.int .i64 (u.2.1),Value.string (u.2.2)]),.bool true])/\Below w.heap.size w w'):=qAq (fun w hw=>by
  have h3:=h.later hw;obtain⟨g',c',e,_,_,k1,k2⟩:=h3.ptr hk;rw[hcv] at e;cases e;have hcall:=aCx (h3.col k hk) p hp;rw[qQq hp] at hu;rw[Option.some.inj hu] at hcall;exact⟨by rw[<- hn,<- hcv];exact h3.cells.2.2.2.2.1,k2,h3.tlt,k1,hcall⟩)
 rw[hn] at n1 hk;have hki:(k:Int)<(n:Int):=(by omega);have HB:=qAq (qBq hb hk0);unfold maxLen at n2;obtain⟨uk,un,us⟩:=u;clear h h1 hb hk0 hf hy hd hcv hn hu hp;generalize i.cb k=cb at HX;simp only at HX ⊢;go_enter Tryz.func118,Tryz.ntmps118
 go_wp2_with (first
  | (go_at_call 63;(with_reducible refine ha.mono ?_);rintro e w2 ⟨rfl,hw2⟩;subst w2)
  | (go_at_call 67;(with_reducible refine hc.mono ?_);rintro e w3 ⟨rfl,hb3⟩;obtain⟨x4,xk,xt,xg,xw⟩:=HX.out w3 (aB HB.out.1 hb3);have H3:=qAq hb3;clear hb3 hc)
  | (go_at_call 96;(with_reducible refine xw.mono ?_);rintro e w4 ⟨rfl,hb4⟩;have hx4:=aD hb4 (aD H3.out HB.out.2);have z0:=aA hx4 0;have z1:=aA hx4 1;have z2:=aA hx4 2;have zf:=fun i=>frozen_of_row w4 W.heap.size i _ _ hx4;have zl:=lt_of_heap hx4;have H4:=qAq (qBq (aB (aB HB.out.1 H3.out) hb4) hx4);clear hx4 hb4))
 have hS:=uL H4.out.2 (.int .i64 uk) (.int .i64 un) (.string us);have hBel:=((H4.out.1.setCell (p:=⟨W.heap.size,0,none⟩) (Nat.le_refl _) (.int .i64 uk)).setCell (p:=⟨W.heap.size,1,none⟩) (Nat.le_refl _) (.int .i64 un)).setCell (p:=⟨W.heap.size,2,none⟩) (Nat.le_refl _) (.string us);generalize ((w4.setCell _ _).setCell _ _).setCell _ _=wz at hS hBel ⊢;have y0:=aA hS 0;have y1:=aA hS 1;have y2:=aA hS 2;refine bodyPost_ret (v:=.tuple #[(Value.agg #[Value.int .i64 (uk),Value.int .i64 (un),Value.string (us)]),.bool true]) (by simp[results,Tryz.results118,go_sem,y0,y1,y2]) rfl ?_;exact⟨rfl,hBel⟩
end
def InV (S:Nat->Prop) (W:World) (v:Value) (l:List T3):Prop:=∃ p cap,v=.slice p l.length cap/\l.length<=cap/\cap<=maxLen/\(0<l.length->∃ b off,p=some ⟨b,off,none⟩/\b<W.heap.size/\S b/\∀ j u,(cells3 l)[j]?=some u->W.cell? ⟨b,off+j,none⟩=some u)
section
variable {S T1:Nat->Prop} {W W':World} {v:Value} {l:List T3}
theorem InV.tn (h:InV S W v l) (hk:Tn T1 W W') (hs:∀ b,S b->¬ T1 b):InV S W' v l:=by
 obtain⟨p,cap,h1,h2,h3,h4⟩:=h;refine⟨p,cap,h1,h2,h3,fun h0=>?_⟩;obtain⟨b,off,h5,h6,h7,h8⟩:=h4 h0;exact⟨b,off,h5,Nat.lt_of_lt_of_le h6 hk.size,h7,fun j u hj=>(World.cell?_of_block (w:=W) (hk.chg.block b h6 (hs b h7))).trans (h8 j u hj)⟩
theorem InV.later (h:InV S W v l) (hb:Below W.heap.size W W'):InV S W' v l:=h.tn (T1:=fun _=>False) (Tn.of_below hb) (fun _ _ h=>h)
theorem InV.mono (h:InV S W v l) (hs:∀ b,b<W.heap.size->S b->T1 b):InV T1 W v l:=by
 obtain⟨p,cap,h1,h2,h3,h4⟩:=h;refine⟨p,cap,h1,h2,h3,fun h0=>?_⟩;obtain⟨b,off,h5,h6,h7,h8⟩:=h4 h0;exact⟨b,off,h5,h6,hs b h6 h7,h8⟩
theorem InV.slice (h:InV S W v l):∃ p cap,v=.slice p l.length cap/\l.length<=cap/\cap<=maxLen:=by
 obtain⟨p,cap,h1,h2,h3,h4⟩:=h;exact⟨p,cap,h1,h2,h3⟩
theorem InV.val {p:Option Addr} {n cap j:Nat} (h:InV S W (.slice p n cap) l) (hj:j<l.length):∃ b off,p=some ⟨b,off,none⟩/\b<W.heap.size/\W.cell? ⟨b,off+j*3,none⟩=some (.int .i64 l[j].1)/\W.cell? ⟨b,off+j*3+1,none⟩=some (.int .i64 l[j].2.1)/\W.cell? ⟨b,off+j*3+2,none⟩=some (.string l[j].2.2):=by
 obtain⟨p',cap',h1,h2,h3,h4⟩:=h;cases h1;obtain⟨b,off,h5,h6,h7,h8⟩:=h4 (by omega);obtain⟨c0,c1,c2⟩:=eX l j hj;exact⟨b,off,h5,h6,h8 _ _ c0,h8 _ _ c1,h8 _ _ c2⟩
theorem InV.of_row {base:Nat} {n:Nat} (h:HRow W base 42 3 v n (cells3 l)) (hn:l.length=n):InV (fun b=>v.ownBlock=some b) W v l:=by
 subst hn;rcases h.2 with ⟨rfl,h0⟩ | ⟨g,cap,cur,rfl,_,hg,h1,h2,_,_⟩
 ·exact⟨none,0,by rw[h0],by omega,Nat.zero_le _,fun h=>by omega⟩
 exact⟨_,cap,rfl,h1,h2,fun _=>⟨g,0,rfl,lt_of_heap hg,rfl,fun j u hj=>by rw[Nat.zero_add];exact h.cell hj⟩⟩
end
def lM {α:Type} (f:Nat->α) (k:Nat) (x:α):Nat->α:=fun j=>if j=k then x else f j
theorem cF {α:Type} (f:Nat->α) (k:Nat) (x:α):lM f k x k=x:=if_pos rfl
theorem bG {α:Type} (f:Nat->α) {k j:Nat} (x:α) (h:j≠k):lM f k x j=f j:=if_neg h
section
variable {W W':World} {tb next:Nat} {t:T} {i:In} {lab lab':Nat->Nat}
theorem TbR.relab (h:TbR W tb t next i lab) (he:∀ b,lab b≠0->lab' b=lab b) (hlt:∀ b,lab' b≠0->b<W.heap.size):TbR W tb t next i lab':=by
 have e:∀ b q,lab b=q->q≠0->lab' b=q:=(fun b q h1 h2=>by rw[he b (by rw[h1];exact h2),h1]);exact⟨h.form,h.cols,h.col,h.place,h.pm,h.free,h.gone,h.late,e _ _ h.l1 (by decide),fun b hb=>e _ _ (h.l2 b hb) (by decide),fun b hb=>e _ _ (h.l3 b hb) (by decide),fun b hb=>e _ _ (h.l4 b hb) (by decide),fun k hk=>e _ _ (h.l6 k hk) (by omega),fun k hk b hb=>e _ _ (h.l7 k hk b hb) (by omega),hlt⟩
def dR (lab:Nat->Nat) (o:Option Nat) (q:Nat):Nat->Nat:=fun b=>if o=some b then q else lab b
theorem jJ {o:Option Nat} {q:Nat} (h:∀ b,o=some b->lab b=q∨W.heap.size<=b):Ext W lab (dR lab o q):=fun b hb=>by
 unfold dR;split
 ·rename_i e;rcases h b e with h1|h1
  ·exact h1.symm
  ·omega
 ·rfl
theorem lN {o:Option Nat} {q:Nat} (h:∀ b,lab b≠0->b<W.heap.size) (he:Ext W lab (dR lab o q)):∀ b,lab b≠0->dR lab o q b=lab b:=fun b hb=>he b (h b hb)
theorem lO {o:Option Nat} {q:Nat} (h:∀ b,lab b≠0->b<W.heap.size) (hs:W.heap.size<=W'.heap.size) (ho:∀ b,o=some b->b<W'.heap.size):∀ b,dR lab o q b≠0->b<W'.heap.size:=fun b hb=>by
 unfold dR at hb;split at hb
 ·rename_i e;exact ho b e
 ·exact Nat.lt_of_lt_of_le (h b hb) hs
theorem jK {o:Option Nat} {q:Nat}:∀ b,o=some b->dR lab o q b=q:=fun _ hb=>if_pos hb
theorem TbM.setcol (h:TbM W tb t next i lab) {k:Nat} (hk:k<t.cols.length) {l':List T3} {v':Value} (hcol:Col (i.cb k) t.cols[k].kd l' v' W') (hchg:Chg (fun b=>b=i.cb k∨(i.v k).ownBlock=some b) W W') (hv:∀ q,v'.ownBlock=some q->(i.v k).ownBlock=some q∨W.heap.size<=q) :
  ∃ lab',TbM W' tb t next { i with cl:=lM i.cl k l',v:=lM i.v k v' } lab'/\Ext W lab lab'/\Tn (fun b=>lab b≠0) W W':=by
 have hty:=(h.col k hk).ty
 have htn:Tn (fun b=>b=i.cb k∨(i.v k).ownBlock=some b) W W':=Tn.of_chg hchg (fun b _ hb=>.inl (by
  rcases hb with rfl|hb
  ·exact hty.1
  exact hty.2 b hb))
 have hlab:∀ b,(b=i.cb k∨(i.v k).ownBlock=some b)->lab b=6+2*k∨lab b=7+2*k:=fun b hb=>by
  rcases hb with rfl|hb
  ·exact .inl (h.l6 k hk)
  exact .inr (h.l7 k hk b hb)
 have hne:∀ b q,lab b=q->q≠6+2*k->q≠7+2*k->¬ (b=i.cb k∨(i.v k).ownBlock=some b):=fun b q e h1 h2 hb=>by
  rcases hlab b hb with e2|e2
  ·exact h1 (by rw[<- e,e2])
  exact h2 (by rw[<- e,e2])
 have hkeep:∀ b q,lab b=q->q≠0->q≠6+2*k->q≠7+2*k->W'.heap[b]?=W.heap[b]?:=(fun b q e h0 h1 h2=>hchg.block b (h.lt b (by rw[e];exact h0)) (hne b q e h1 h2));have hext:Ext W lab (dR lab v'.ownBlock (7+2*k)):=jJ (fun b hb=>(hv b hb).imp (h.l7 k hk b) id);have heq:=lN h.lt hext;have e:∀ b q,lab b=q->q≠0->dR lab v'.ownBlock (7+2*k) b=q:=fun b q h1 h2=>by rw[heq b (by rw[h1];exact h2),h1]
 refine⟨dR lab v'.ownBlock (7+2*k),⟨⟨h.form.tn htn,h.cols.tn htn rfl,fun j hj=>?_,h.place.of (fun b hb=>hkeep b 2 (h.l2 b hb) (by decide) (by omega) (by omega)),h.pm,h.free.of (fun b hb=>hkeep b 3 (h.l3 b hb) (by decide) (by omega) (by omega)),h.gone.tn htn,
  h.late.of (fun b hb=>hkeep b 4 (h.l4 b hb) (by decide) (by omega) (by omega)),e _ _ h.l1 (by decide),fun b hb=>e _ _ (h.l2 b hb) (by decide),fun b hb=>e _ _ (h.l3 b hb) (by decide),fun b hb=>e _ _ (h.l4 b hb) (by decide),fun j hj=>e _ _ (h.l6 j hj) (by omega),fun j hj b hb=>?_,lO h.lt hchg.size hcol.rlt⟩,(hkeep tb 1 h.l1 (by decide) (by omega) (by omega)).trans h.box⟩,hext,htn.mono (fun b _ hb=>by rcases hlab b hb with h1|h1 <;> omega)⟩
 ·show Col (i.cb j) t.cols[j].kd (lM i.cl k l' j) (lM i.v k v' j) W';by_cases ej:j=k
  ·subst ej;rw[cF,cF];exact hcol
  rw[bG _ _ ej,bG _ _ ej];exact (h.col j hj).tn htn (hne _ _ (h.l6 j hj) (by omega) (by omega)) (fun b hb=>hne _ _ (h.l7 j hj b hb) (by omega) (by omega))
 have hb:(lM i.v k v' j).ownBlock=some b:=hb;by_cases ej:j=k
 ·subst ej;rw[cF] at hb;exact jK b hb
 rw[bG _ _ ej] at hb;exact e _ _ (h.l7 j hj b hb) (by omega)
theorem TbM.setmap (h:TbM W tb t next i lab) (hn:i.np=0) (hf:∀ x,i.f x=none) :
  ∃ lab',TbM ((W.alloc (.map #[] 0)).setCell ⟨tb,5,none⟩ (.map (some W.heap.size))) tb t next { i with pv:=.map (some W.heap.size),m:=0 } lab'/\Ext W lab lab'/\Tn (fun b=>lab b≠0) W ((W.alloc (.map #[] 0)).setCell ⟨tb,5,none⟩ (.map (some W.heap.size))):=by
 have hb:=aC W (.map #[] 0);have h1:=h.later hb;have htn:=Tn.own h1 5 (.map (some W.heap.size));have hext:Ext W lab (dR lab (some W.heap.size) 2):=jJ (fun b hb=>.inr (by cases hb;exact Nat.le_refl _));have heq:=lN h.lt hext;have h2:TbR ((W.alloc (.map #[] 0)).setCell ⟨tb,5,none⟩ (.map (some W.heap.size))) tb t next i (dR lab (some W.heap.size) 2):=(h1.toTbR.tn htn (fun b hb=>.inr hb)).relab heq (lO h.lt (by simp[World.setCell]) (fun b hb=>by cases hb;simp[World.setCell]));have hne:W.heap.size≠tb:=(by have:=h.tlt;omega);refine⟨_,⟨⟨h2.form,h2.cols,h2.col,?_,Nat.zero_le _,h2.free,h2.gone,h2.late,h2.l1,fun b hb=>?_,h2.l3,h2.l4,h2.l6,h2.l7,h2.lt⟩,heap_setCell_same _ tb 5 _ _ _ h1.box⟩,hext,(Tn.of_below hb).trans htn (S:=fun _=>False) (fun _ _ h=>h.elim) (fun b _ hb=>by show lab b≠0;rw[show lab b=1 from hb];decide)⟩
 ·refine .inr ⟨W.heap.size,rfl,?_⟩;show Mi _ W.heap.size i.f i.np 0;rw[hn,show i.f=fun _=>none from funext hf];exact (Mi.made W).of (heap_setCell_other _ ⟨tb,5,none⟩ _ _ hne)
 cases hb;exact jK _ rfl
theorem TbM.setfree (h:TbM W tb t next i lab) {g n c:Nat} {fr:List Nat} {p:Nat} (hfv:i.fv=.slice (some ⟨g,0,none⟩) n c) (hfr:i.free=fr++[p]) (hn:fr.length+1=n) :
  TbM (W.setCell ⟨tb,6,none⟩ (.slice (some ⟨g,0,none⟩) fr.length c)) tb t next { i with fv:=.slice (some ⟨g,0,none⟩) fr.length c,free:=fr } lab/\Tn (fun b=>lab b≠0) W (W.setCell ⟨tb,6,none⟩ (.slice (some ⟨g,0,none⟩) fr.length c)):=by
 have htn:=Tn.own h 6 (.slice (some ⟨g,0,none⟩) fr.length c);have h2:=h.toTbR.tn htn (fun b hb=>.inr hb);have hr:=h2.free;rw[hfv,hfr] at hr;refine⟨⟨⟨h2.form,h2.cols,h2.col,h2.place,h2.pm,?_,h2.gone,h2.late,h2.l1,h2.l2,fun b hb=>h2.l3 b (by rw[hfv];exact hb),h2.l4,h2.l6,h2.l7,h2.lt⟩,heap_setCell_same _ tb 6 _ _ _ h.box⟩,htn.mono (fun b _ hb=>by show lab b≠0;rw[show lab b=1 from hb];decide)⟩;have hlen:(fr++[p]).length=n:=(by simp;exact hn);rw[hlen] at hr;obtain⟨cur,h3,h4,h5,h6,h7,h8⟩:=hr.form;refine⟨by simp,.inr ⟨g,c,cur,rfl,Nat.zero_le _,h4,by show fr.length<=c;omega,h6,h7,?_⟩⟩;show cur.toList.take (fr.length*1)=fr.map ivn;have:cur.toList.take (fr.length*1)=(cur.toList.take (n*1)).take (fr.length*1):=(by rw[List.take_take];congr 1 <;> omega);rw[this,h8]
 simp
theorem TbM.setput (h:TbM W tb t next i lab) {b:Nat} (hpv:i.pv=.map (some b)) {x:Int} {p:Nat} (hx:F64 x) (hp:p<=1000000) (hf:i.f x=none) (hm:i.m+1<=next) (hn:next<=1000000) :
  ∃ w',(Instr.mapUpdate 110 (.map (some b)) (.int .i64 x) (.int .i64 (p:Int))).run Tryz.prog W=.ok () w'/\TbM w' tb t next { i with f:=upF i.f x p,np:=i.np+1,m:=i.m+1 } lab/\Tn (fun b=>lab b≠0) W w':=by
 have hmi:Mi W b i.f i.np i.m:=by
  rcases h.place with ⟨e,_⟩ | ⟨b',e,hm⟩
  ·rw[hpv] at e;cases e
  rw[hpv] at e;cases e;exact hm
 obtain⟨es,ck,hmap⟩:=hmi.isMap;obtain⟨w',hrun,hm',hg⟩:=hmi.put hx hp hf (by omega);have hlb:lab b=2:=h.l2 b (by rw[hpv];rfl);have htn:Tn (fun c=>c=b) W w':=Tn.of_chg ((Chg.refl (fun c=>c=b) W).grown hg (fun k hk _=>by cases hk;rfl)) (fun c _ hc=>.inr ⟨es,ck,by rw[hc];exact hmap⟩);have hne:∀ c q,lab c=q->q≠2->c≠b:=(fun c q e h2 e2=>h2 (by rw[<- e,e2];exact hlb));have hkeep:∀ c q,lab c=q->q≠0->q≠2->w'.heap[c]?=W.heap[c]?:=fun c q e h0 h1=>htn.chg.block c (h.lt c (by rw[e];exact h0)) (hne c q e h1)
 refine⟨w',hrun,⟨⟨h.form.tn htn,h.cols.tn htn rfl,fun j hj=>(h.col j hj).tn htn (hne _ _ (h.l6 j hj) (by omega)) (fun c hc=>hne _ _ (h.l7 j hj c hc) (by omega)),.inr ⟨b,hpv,hm'⟩,hm,h.free.of (fun c hc=>hkeep c 3 (h.l3 c hc) (by decide) (by decide)),h.gone.tn htn,
  h.late.of (fun c hc=>hkeep c 4 (h.l4 c hc) (by decide) (by decide)),h.l1,h.l2,h.l3,h.l4,h.l6,h.l7,fun c hc=>Nat.lt_of_lt_of_le (h.lt c hc) htn.size⟩,(hkeep tb 1 h.l1 (by decide) (by decide)).trans h.box⟩,htn.mono (fun c _ hc=>by show lab c≠0;rw[show c=b from hc,hlb];decide)⟩
end
