import Derived.Test.YtjepplacnaoomaaGreatZw50
import Derived.Test.YtjepplacnaoomaaGreatZw53
import Derived.Test.YtjepplacnaoomaaGreatZw48
import Derived.Test.YtjepplacnaoomaaGreatZw45
set_option maxHeartbeats 16000000
set_option maxRecDepth 100000
namespace Go.Proofs.YtjepplacnaoomaaGreat
open Go Go.RowKit Go.Proofs Co Co.S
theorem IsAll.mem {ts:List T} (hN:Nice ts) {tb:ByteArray} {l:List (List ByteArray)} (h:IsAll ts tb l) (p:List ByteArray):p∈l↔(pcolL ts tb p).2.2=0:=by
 rw[h.2.mem_iff,mem_ways hN];unfold pcolL;constructor
 ·rintro ⟨q,hq,h1,h2,h3⟩;have hq:p=q:=hq;subst hq;rw[if_neg (by omega)];exact h3
 ·intro h3;by_cases hl:p.length<1∨4<p.length
  ·rw[if_pos hl] at h3;simp at h3
  ·rw[if_neg hl] at h3;exact⟨p,rfl,by omega,by omega,h3⟩
theorem pre_nice:∀ j,j<=4->Nice (pre j)
 | 0,_=>Nice.nil
 | j+1,h=>by
  have hj:j<starT.length:=(by show j<4;omega);have h1:=(pre_nice j (by omega)).add starT[j];unfold addT at h1;rw[if_pos (pre_may j hj),pre_succ] at h1;exact h1
theorem Rd2.idF {W:World} {d b m:Nat} {L:List PT} (h:Rd2 W d b (pre 4) L) (hs:∀ x∈L,SmP m x) (hm:m<=390) {x:PT} (hx:x∈L):∀ a∈x.2,F64 a.1:=fun a ha=>by
 have h5:=(hs x hx).1;obtain⟨⟨st,O,h1,h2⟩,_⟩:=h;rw[<- h2] at hx;obtain⟨s,hs',rfl⟩:=List.mem_map.1 hx;obtain⟨j,hj,rfl⟩:=List.getElem_of_mem hs';obtain⟨lab,hT,_⟩:=h1.tab j (by rw[<- h1.len];exact hj) hj;obtain⟨r1,r2⟩:=hT.rng a ha;exact⟨by omega,by omega⟩
theorem valueP_way {ts:List T} {As:List (List R1)} {x:ByteArray} {id:Int} {p:List ByteArray} (hp:(pcolL ts x p).2.2=0) (hid:hasId (rowsAt ts As x) id=true):∃ r,valueP ts As x id p=(r,true):=by
 unfold valueP;rw[if_pos ⟨hp,hid⟩];exact⟨_,rfl⟩
section
open Par
structure Vq (W:World) (u:T3) (E:Nat->Value) (l:Nat->Bool) (vs:Nat->Value) (w:World):Prop where
 bel:Below W.heap.size W w
 ev:∀ j,j≠21->j≠22->l j=true->vs j=E j
 f21:l 21=true->∃ g,vs 21=(Value.pointer (some ⟨g,0,none⟩))/\W.heap.size<=g/\w.heap[g]?=some (if l 22=true then .cells #[.int .i64 u.1,.int .i64 u.2.1,.string u.2.2] 26 else .cells #[.int .i64 0,.int .i64 0,.string e0] 26)
variable {W w w':World} {u:T3} {E:Nat->Value} {l:Nat->Bool} {vs:Nat->Value}
theorem Vq.up (h:Vq W u E l vs w) (i:Nat) (hi:i≠21/\i≠22):Vq W u E (upB l i) (upV vs i (E i)) w:=by
 refine⟨h.bel,fun j a a2 hl=>?_,fun hl=>?_⟩
 ·by_cases e:j=i
  ·subst e;rw[upV_eq]
  ·rw[upV_ne e];rw[upB_ne e] at hl;exact h.ev j a a2 hl
 ·rw[upB_ne (fun e=>hi.1 e.symm)] at hl;rw[upV_ne (fun e=>hi.1 e.symm),upB_ne (fun e=>hi.2 e.symm)];exact h.f21 hl
theorem Vq.on (h:Vq W u E l vs w) (hb:Below w.heap.size w w'):Vq W u E l vs w':=by
 refine⟨below_on h.bel hb,h.ev,fun hl=>?_⟩;obtain⟨g,e,h1,h2⟩:=h.f21 hl;exact⟨g,e,h1,heap_on hb h2⟩
theorem Vq.box (h:Vq W u E l vs w) (h22:l 22=false):Vq W u E (upB l 21) (upV vs 21 (Value.pointer (some ⟨w.heap.size,0,none⟩))) (w.alloc (.cells #[.int .i64 0,.int .i64 0,.string e0] 26)):=by
 refine⟨below_on h.bel (below_alloc _ _),fun j a a2 hl=>?_,fun _=>⟨w.heap.size,upV_eq,h.bel.size,?_⟩⟩
 ·rw[upV_ne a];rw[upB_ne a] at hl;exact h.ev j a a2 hl
 ·rw[upB_ne (by decide),if_neg (by rw[h22];decide)];exact heap_alloc_new _ _
theorem Vq.store (h:Vq W u E l vs w) (h21:l 21=true) (h22:l 22=false) {g:Nat} (e:vs 21=(Value.pointer (some ⟨g,0,none⟩))) (v:Value):Vq W u E (upB l 22) (upV vs 22 v) (((w.setCell ⟨g,0,none⟩ (.int .i64 u.1)).setCell ⟨g,1,none⟩ (.int .i64 u.2.1)).setCell ⟨g,2,none⟩ (.string u.2.2)):=by
 obtain⟨g',e2,h1,h2⟩:=h.f21 h21;rw[e] at e2;cases e2;rw[if_neg (by rw[h22];decide)] at h2;refine⟨below_set3 h.bel h1 _ _ _,fun j a a2 hl=>?_,fun _=>⟨g,?_,h1,?_⟩⟩
 ·rw[upV_ne a2];rw[upB_ne a2] at hl;exact h.ev j a a2 hl
 ·rw[upV_ne (by decide)];exact e
 ·rw[upB_eq,if_pos rfl];exact set3 h2 _ _ _
end
theorem ways12_law {p0:Option Addr} {c0:Nat} {L:List OpX} (W:World) (hL:OpsR W p0 L) (hLm:L.length<=maxLen) (hid:∀ o∈L,F64 o.id) :
  Calls Tryz.prog 4 #[.slice p0 L.length c0] W fun e w'=>e=.returned (.bool true)/\Below W.heap.size W w':=by
 have hbeg:=begun12_any W;obtain⟨n,hn⟩:∃ n,L.length=n:=⟨_,rfl⟩;have HA:=Lib.hid (And.intro hL (And.intro hLm (And.intro hid hn)));rw[hn];clear hL hLm hid hn;go_enter Tryz.func4,Tryz.ntmps4;go_upto_region 4 with (go_at_call 11;(with_reducible refine hbeg.mono ?_);rintro e w4 ⟨rfl,hb2⟩;have H4:=Lib.hid hb2;clear hbeg hb2);have hstar:=star_pd w4;go_upto_region 5 with (go_at_call 14;(with_reducible refine hstar.mono ?_);rintro e w5 ⟨d,b,ps,rfl,hP5⟩;have HP5:=Lib.hid hP5;clear hstar hP5);have hb5:=HP5.out.bel (Below.refl _ _) (fun q hq=>hq);have hops:=ops_any (W:=w5) (c:=c0) 40 (by decide) (opsR_later HA.out.1 (below_on H4.out hb5)) HA.out.2.1;rw[HA.out.2.2.2] at hops;have hops:Calls Tryz.prog 16 #[.slice p0 n c0,.int .i64 40] w5 _:=hops;clear hb5
 go_upto_region 6 with (first
  | (go_at_call 16;(with_reducible refine hops.mono ?_);rintro e w6 ⟨tv,rfl,ho,hb6⟩;have hfill:=fill_star HP5.out hb6 ho HA.out.2.2.1 (by decide);clear hops ho hb6)
  | (go_at_call 15;(with_reducible refine hfill.mono ?_);rintro e w7 ⟨rfl,hP7⟩;have HP7:=Lib.hid hP7;clear hfill hP7))
 obtain⟨L',hL'⟩:∃ x,fillP (pre 4) Lz ((L.take 40).map cutOp)=x:=⟨_,rfl⟩;have hsm:∀ x∈L',SmP 60 x:=(by rw[<- hL'];exact fill_small (by decide));rw[hL'] at HP7;have hR7:=HP7.out.rd2;have hB7:=below_on H4.out (HP7.out.bel (Below.refl _ _) (fun q hq=>hq));have H7:=Lib.hid (And.intro hR7 (And.intro hB7 hsm));obtain⟨tt0,i0,Ob0,hDN,hL0⟩:=hR7.nn;have hN4:tt0.length=4:=(by rw[hDN.n];rfl);have DN:=Lib.hid (And.intro hDN hL0);have hbx0:=hDN.box;obtain⟨psv,csv,esv,_,_⟩:=hDN.form.isslice;have esv:i0.sv=.slice psv 4 csv:=esv;have hts:=hDN.rdTs;rw[esv] at hbx0 hts;have BX:Hid (∀ w,Below w7.heap.size w7 w->w.cell? ⟨b,0,none⟩=some (.slice psv 4 csv)/\b<w.heap.size):=Lib.hid (fun w hw=>⟨nd_cell (heap_on hw hbx0) 0,lt_of_heap (heap_on hw hbx0)⟩)
 have TS:Hid (∀ w,Below w7.heap.size w7 w->RdTs w (.slice psv 4 csv) (pre 4)):=Lib.hid (fun w hw=>by
  have:=(DN.out.1.later hw).rdTs
  rw[esv] at this;exact this)
 clear hL' hsm hR7 hB7 hDN hL0 hbx0 hts esv;go_wp2_with fail;go_loopg [6] 5 (fun gh jv w=>∃ (t:Nat),jv=.int .i64 (t:Int)/\t<=4/\5<=t+gh/\Below w7.heap.size w7 w)
 case atStart=>exact⟨0,rfl,Nat.zero_le _,by omega,Below.refl _ _⟩
 case round =>
  obtain⟨t,rfl,ht,hg,hB⟩:=hrel;obtain⟨x0,xl⟩:=BX.out wr hB;by_cases hlt:t<4
  ·have hti:(t:Int)<4:=(by omega);have htp:t<(pre 4).length:=hlt;have htt:t<tt0.length:=(by omega);have hyk:tt0[t]?=some tt0[t]:=List.getElem?_eq_getElem htt;obtain⟨⟨gs,cs,go,co,gn,cn,pc,kc,pd,kd⟩,esv,eov,env,_,_,_,hR⟩:=DN.out.1.reads htp hyk
   have epsv:psv=some ⟨gs,0,none⟩/\csv=cs:=by
    have h2:=(hR wr hB).b0;have h3:some (Value.slice psv 4 csv)=some (Value.slice (some ⟨gs,0,none⟩) 4 cs):=x0.symm.trans h2;cases h3;exact⟨rfl,rfl⟩
   obtain⟨rfl,rfl⟩:=epsv;have hok:=DN.out.1.ok htp hyk;obtain⟨y,hy⟩:∃ y,tt0[t]=y:=⟨_,rfl⟩;rw[hy] at hok hR;obtain⟨pr,cr,hrv,_,_⟩:=hok.rows.isslice;obtain⟨na,hna⟩:∃ n,y.A.length=n:=⟨_,rfl⟩;rw[hna] at hrv
   have hAs:rowsAt (pre 4) (rowsL L') (pre 4)[t].nm=y.A:=by
    unfold rowsAt;rw[((pre_inv 4 (by decide)).one t htp).2,<- DN.out.2,<- rowsN_map rfl];simp only[Int.toNat_natCast,List.getElem?_map,hyk,hy];rfl
   have hna60:na<=60:=by
    have h1:keyN tt0[t]∈L':=by rw[<- DN.out.2];exact List.mem_map_of_mem (List.getElem_mem htt)
    have:=H7.out.2.2 _ h1
    rw[hy] at this;have h3:=this.1;have h4:y.A.length<=y.nx:=this.2;rw[<- hna];exact Nat.le_trans h4 h3
   have hnai:(na:Int)<=60:=by omega
   have F6:∀ a∈y.A,F64 a.1:=by
    have h1:keyN tt0[t]∈L':=by rw[<- DN.out.2];exact List.mem_map_of_mem (List.getElem_mem htt)
    have:=H7.out.1.idF H7.out.2.2 (by decide) h1
    rw[hy] at this;exact this
   obtain⟨nm,hnm⟩:∃ x,(pre 4)[t].nm=x:=⟨_,rfl⟩;rw[hnm] at hAs
   have NR:Hid (∀ w,Below w7.heap.size w7 w->w.cell? ⟨gs,t*4,none⟩=some (.string nm)/\gs<w.heap.size/\w.cell? ⟨b,1,none⟩=some (.slice (some ⟨go,0,none⟩) 4 co)/\w.cell? ⟨go,t,none⟩=some (.slice pr na cr)/\go<w.heap.size/\b<w.heap.size):=Lib.hid (fun w hw=>by
    have k:=hR w hw;rw[<- hnm,<- hrv];exact⟨k.s0,k.sl,k.b1,k.o0,k.ol,k.bl⟩)
   have RO:Hid (∀ i,(hi:i<na)->∃ R,pr=some ⟨R,0,none⟩/\hasId y.A (y.A[i]'(by omega)).1=true/\F64 (y.A[i]'(by omega)).1/\∀ w,Below w7.heap.size w7 w->w.cell? ⟨R,i*2,none⟩=some (.int .i64 (y.A[i]'(by omega)).1)/\R<w.heap.size):=Lib.hid (fun i hi=>by
    have hiA:i<y.A.length:=(by omega);obtain⟨R,cr',r1,_,_⟩:=hok.rows.slice (by omega);have hrr:=hok.rows;rw[r1] at hrr;rw[hrv,hna] at r1;cases r1;obtain⟨q1,_⟩:=cellsR_at hok.n hiA;have hid0:=hok.rng _ (List.getElem_mem hiA);refine⟨R,rfl,?_,F6 _ (List.getElem_mem hiA),fun w hb=>?_⟩
    ·unfold hasId;exact List.any_eq_true.2 ⟨_,List.getElem_mem hiA,decide_eq_true rfl⟩
    ·have hrw:=hrr.later hb;exact⟨hrw.cell q1,(HRow.lt hrw R rfl).2⟩)
   have AS_:=Lib.hid (And.intro hAs hna);have hall:=rall_any (tb:=nm) (TS.out wr hB) (pre_nice 4 (by decide));obtain⟨y0,yl,_⟩:=NR.out wr hB;have HB:=Lib.hid hB;clear hB hR esv eov env hok hrv hnm hAs hyk hna60;go_upto_region 11 with (go_at_call 23;(with_reducible refine hall.mono ?_);rintro e w8 ⟨pa,ma,ca,vsa,qs,rfl,hma,hIs,hPR,hb8⟩;have H8:=Lib.hid (And.intro (below_on HB.out hb8) (And.intro hIs (And.intro hPR hma)));clear hall hma hIs hPR hb8);clear y0 yl x0 xl
   have hma2:(ma:Int)<=100000:=by
    have h1:=H8.out.2.1.2.length_eq;have h2:=ways_len (pre_nice 4 (by decide)) 4 nm [];have h3:=manyW_le 4 (by decide);have h4:=H8.out.2.2.2;omega
   go_wp2_with fail;go_loopg [9] (na+1) (fun gh jv w=>∃ (i:Nat),jv=.int .i64 (i:Int)/\i<=na/\i<=6/\na+1<=i+gh/\Below w8.heap.size w8 w)
   case atStart=>exact⟨0,rfl,Nat.zero_le _,Nat.zero_le _,by omega,Below.refl _ _⟩
   case round =>
    obtain⟨i,rfl,hi,hi6,hg2,hB2⟩:=hrel;obtain⟨_,_,y1,y2,yl,bl⟩:=NR.out wr (below_on H8.out.1 hB2);by_cases hlt2:i<na/\i<6
    ·obtain⟨hlt2,hlt6⟩:=hlt2;have hii:(i:Int)<(na:Int):=(by omega);have hii6:(i:Int)<6:=(by omega);obtain⟨R,rfl,hhas,hF,hrow⟩:=RO.out i hlt2;obtain⟨idv,hidv⟩:∃ x,(y.A[i]'(by have:=AS_.out.2;omega)).1=x:=⟨_,rfl⟩;rw[hidv] at hhas hF
     have HX:Hid (∀ w,Below w8.heap.size w8 w->w.cell? ⟨b,1,none⟩=some (.slice (some ⟨go,0,none⟩) 4 co)/\w.cell? ⟨go,t,none⟩=some (.slice (some ⟨R,0,none⟩) na cr)/\w.cell? ⟨R,i*2,none⟩=some (.int .i64 idv)/\go<w.heap.size/\b<w.heap.size/\R<w.heap.size):=Lib.hid (fun w hw=>by
      obtain⟨_,_,k1,k2,k3,k4⟩:=NR.out w (below_on H8.out.1 hw);obtain⟨k5,k6⟩:=hrow w (below_on H8.out.1 hw);rw[hidv] at k5;exact⟨k1,k2,k5,k3,k4,k6⟩)
     have HI:=Lib.hid (And.intro hhas hF);have HB2:=Lib.hid hB2;clear hB2 hhas hF hrow hidv;go_wp2_with fail;clear y1 y2 yl bl;go_loopg [10] (ma+1) (fun gh jv w=>∃ (k:Nat),jv=.int .i64 (k:Int)/\k<=ma/\ma+1<=k+gh/\Below w8.heap.size w8 w)
     case atStart=>exact⟨0,rfl,Nat.zero_le _,by omega,HB2.out⟩
     case round =>
      obtain⟨k,rfl,hk,hg3,hB3⟩:=hrel;by_cases hlt3:k<ma
      ·have hki:(k:Int)<(ma:Int):=(by omega);have hkq:k<qs.length:=(by rw[<- H8.out.2.2.2];exact hlt3);have hrow:=H8.out.2.2.1.row;rw[<- H8.out.2.2.2] at hrow;obtain⟨ga,c',e1,_,_⟩:=hrow.slice (by omega);cases e1;obtain⟨pk,ck,k1,k2,k3⟩:=PR.elem H8.out.2.2.1 hkq;obtain⟨q,hq⟩:∃ q,qs[k]=q:=⟨_,rfl⟩;rw[hq] at k1 k2;have hok:=(IsAll.mem (pre_nice 4 (by decide)) H8.out.2.1 q).1 (by rw[<- hq];exact List.getElem_mem hkq);obtain⟨nk,hnk⟩:∃ x,q.length=x:=⟨_,rfl⟩;rw[hnk] at k1 k2;obtain⟨⟨a0,a1,a2⟩,hr⟩:=valueP_way (As:=rowsL L') hok (id:=idv) (by rw[AS_.out.1];exact HI.out.1)
       have XK:Hid (∀ w,Below wr.heap.size wr w->(w.cell? ⟨ga,k,none⟩=some (.slice pk nk ck)/\ga<w.heap.size) /\
         (Calls Tryz.prog 20 #[(Value.pointer (some ⟨d,0,none⟩)),.string nm,.int .i64 idv,.slice pk nk ck] w fun e w'=>e=.returned (.tuple #[(Value.agg #[Value.int .i64 (a0),Value.int .i64 (a1),Value.string (a2)]),.bool true])/\Below w.heap.size w w') /\
         (Calls Tryz.prog 21 #[(Value.pointer (some ⟨b,0,none⟩)),.string nm,.int .i64 idv,.slice pk nk ck] w fun e w'=>e=.returned (.tuple #[(Value.agg #[Value.int .i64 (a0),Value.int .i64 (a1),Value.string (a2)]),.bool true])/\Below w.heap.size w w')/\Below w8.heap.size w8 w):=Lib.hid (fun w hw=>by
        have hw8:=below_on hB3 hw;have hw7:=below_on H8.out.1 hw8;have h1:=(H7.out.1.later hw7).valueD nm HI.out.2 (k2.later hw8);have h2:=(H7.out.1.later hw7).valueN H7.out.2.2 (by decide) nm idv (k2.later hw8);rw[hr] at h1 h2;exact⟨⟨bel_cell hw8 k1,Nat.lt_of_lt_of_le (HRow.lt hrow ga rfl).2 hw8.size⟩,h1,h2,hw8⟩)
       have EQ:Hid (∀ w,Calls Tryz.prog 22 #[(Value.agg #[Value.int .i64 (a0),Value.int .i64 (a1),Value.string (a2)]),(Value.agg #[Value.int .i64 (a0),Value.int .i64 (a1),Value.string (a2)])] w fun e w'=>e=.returned (.bool true)/\Below w.heap.size w w'):=Lib.hid (fun w=>by
        have h:=refEq_any a0 a1 a2 a0 a1 a2 w
        have e:eqV a0 a1 a2 a0 a1 a2=true:=by
         have:=eqV_dec (a0,a1,a2) a0 a1 a2
         rw[this];exact decide_eq_true rfl
        rw[e] at h;exact h)
       have B3:=Lib.hid hB3;clear hB3 hrow k1 k2 k3 hok hq hnk hr;go_upto_region 17 with fail;refine Par.wp_region_par4 23 (Vq wr (a0,a1,a2) (fun idx=>[(Value.pointer (some ⟨d,0,none⟩)),.string nm,(Value.pointer (some ⟨b,0,none⟩)),(Value.pointer (some ⟨b,0,none⟩)),(Value.pointer (some ⟨b,1,none⟩)),.slice (some ⟨go,0,none⟩) 4 co,(Value.int .i64 ((t:Int))),(Value.pointer (some ⟨go,t,none⟩)),.slice (some ⟨R,0,none⟩) na cr,(Value.int .i64 ((i:Int))),(Value.pointer (some ⟨R,i*2,none⟩)),(Value.pointer (some ⟨R,i*2,none⟩)),(Value.int .i64 (idv)),.slice (some ⟨ga,0,none⟩) ma ca,(Value.int .i64 ((k:Int))),(Value.pointer (some ⟨ga,k,none⟩)),.slice pk nk ck,.tuple #[(Value.agg #[Value.int .i64 (a0),Value.int .i64 (a1),Value.string (a2)]),.bool true],.tuple #[(Value.agg #[Value.int .i64 (a0),Value.int .i64 (a1),Value.string (a2)]),.bool true],(Value.agg #[Value.int .i64 (a0),Value.int .i64 (a1),Value.string (a2)]),.bool true,undef,undef].getD idx undef)) ?AA ?hmA ?hBA ?hAA ?hJA ?hopA ?hTA
       case hmA=>kernel_rfl
       case hBA=>kernel_rfl
       case hAA =>
        intro vs;simp only[Par.putA,Par.dstAt,Act.put,List.getElem?_toArray,List.getElem?_cons_zero,List.getElem?_cons_succ,Option.bind_some,List.setIfInBounds_toArray,List.set_cons_zero,List.set_cons_succ];rfl
       case hopA =>
        simp only[List.take_succ_cons,List.take_zero,Par.GiveAllK,and_true];and_intros<;>intro l vs w Z hl Y Q
        ·have J:=Lib.hid Z;clear Z Y Q;simp only[Par.GivesW];go_simp;all_goals exact J.out.up 0 (by decide)
        ·have J:=Lib.hid Z;clear Z Y Q;simp only[Par.GivesW];go_simp;all_goals exact J.out.up 1 (by decide)
        ·have J:=Lib.hid Z;clear Z Y Q;simp only[Par.GivesW];go_simp;all_goals exact J.out.up 2 (by decide)
        ·have J:=Lib.hid Z;have d2:vs 2=(Value.pointer (some ⟨b,0,none⟩)):=Z.ev 2 (by decide) (by decide) (Y 2 (by kernel_rfl));obtain⟨x1,x2,x3,xa,xb,xc⟩:=HX.out w (below_on B3.out Z.bel);clear Z Y Q;simp only[Par.GivesW,d2];go_simp;all_goals exact J.out.up 3 (by decide)
        ·have J:=Lib.hid Z;have d3:vs 3=(Value.pointer (some ⟨b,0,none⟩)):=Z.ev 3 (by decide) (by decide) (Y 3 (by kernel_rfl));obtain⟨x1,x2,x3,xa,xb,xc⟩:=HX.out w (below_on B3.out Z.bel);clear Z Y Q;simp only[Par.GivesW,d3];go_simp;all_goals exact J.out.up 4 (by decide)
        ·have J:=Lib.hid Z;have d4:vs 4=(Value.pointer (some ⟨b,1,none⟩)):=Z.ev 4 (by decide) (by decide) (Y 4 (by kernel_rfl));obtain⟨x1,x2,x3,xa,xb,xc⟩:=HX.out w (below_on B3.out Z.bel);clear Z Y Q;simp only[Par.GivesW,d4];go_simp;all_goals exact J.out.up 5 (by decide)
        ·have J:=Lib.hid Z;clear Z Y Q;simp only[Par.GivesW];go_simp;all_goals exact J.out.up 6 (by decide)
        ·have J:=Lib.hid Z;have d5:vs 5=.slice (some ⟨go,0,none⟩) 4 co:=Z.ev 5 (by decide) (by decide) (Y 5 (by kernel_rfl));have d6:vs 6=(Value.int .i64 ((t:Int))):=Z.ev 6 (by decide) (by decide) (Y 6 (by kernel_rfl));obtain⟨x1,x2,x3,xa,xb,xc⟩:=HX.out w (below_on B3.out Z.bel);clear Z Y Q;simp only[Par.GivesW,d5,d6];go_simp;all_goals exact J.out.up 7 (by decide)
        ·have J:=Lib.hid Z;have d7:vs 7=(Value.pointer (some ⟨go,t,none⟩)):=Z.ev 7 (by decide) (by decide) (Y 7 (by kernel_rfl));obtain⟨x1,x2,x3,xa,xb,xc⟩:=HX.out w (below_on B3.out Z.bel);clear Z Y Q;simp only[Par.GivesW,d7];go_simp;all_goals exact J.out.up 8 (by decide)
        ·have J:=Lib.hid Z;clear Z Y Q;simp only[Par.GivesW];go_simp;all_goals exact J.out.up 9 (by decide)
        ·have J:=Lib.hid Z;have d8:vs 8=.slice (some ⟨R,0,none⟩) na cr:=Z.ev 8 (by decide) (by decide) (Y 8 (by kernel_rfl));have d9:vs 9=(Value.int .i64 ((i:Int))):=Z.ev 9 (by decide) (by decide) (Y 9 (by kernel_rfl));obtain⟨x1,x2,x3,xa,xb,xc⟩:=HX.out w (below_on B3.out Z.bel);clear Z Y Q;simp only[Par.GivesW,d8,d9];go_simp;all_goals exact J.out.up 10 (by decide)
        ·have J:=Lib.hid Z;have d10:vs 10=(Value.pointer (some ⟨R,i*2,none⟩)):=Z.ev 10 (by decide) (by decide) (Y 10 (by kernel_rfl));obtain⟨x1,x2,x3,xa,xb,xc⟩:=HX.out w (below_on B3.out Z.bel);clear Z Y Q;simp only[Par.GivesW,d10];go_simp;all_goals exact J.out.up 11 (by decide)
        ·have J:=Lib.hid Z;have d11:vs 11=(Value.pointer (some ⟨R,i*2,none⟩)):=Z.ev 11 (by decide) (by decide) (Y 11 (by kernel_rfl));obtain⟨x1,x2,x3,xa,xb,xc⟩:=HX.out w (below_on B3.out Z.bel);clear Z Y Q;simp only[Par.GivesW,d11];go_simp;all_goals exact J.out.up 12 (by decide)
        ·have J:=Lib.hid Z;clear Z Y Q;simp only[Par.GivesW];go_simp;all_goals exact J.out.up 13 (by decide)
        ·have J:=Lib.hid Z;clear Z Y Q;simp only[Par.GivesW];go_simp;all_goals exact J.out.up 14 (by decide)
        ·have J:=Lib.hid Z;have d13:vs 13=.slice (some ⟨ga,0,none⟩) ma ca:=Z.ev 13 (by decide) (by decide) (Y 13 (by kernel_rfl));have d14:vs 14=(Value.int .i64 ((k:Int))):=Z.ev 14 (by decide) (by decide) (Y 14 (by kernel_rfl));clear Z Y Q;simp only[Par.GivesW,d13,d14];go_simp;all_goals exact J.out.up 15 (by decide)
        ·have J:=Lib.hid Z;have d15:vs 15=(Value.pointer (some ⟨ga,k,none⟩)):=Z.ev 15 (by decide) (by decide) (Y 15 (by kernel_rfl));obtain⟨⟨z1,z2⟩,_,_,_⟩:=XK.out w Z.bel;clear Z Y Q;simp only[Par.GivesW,d15];go_simp;all_goals exact J.out.up 16 (by decide)
        ·have J:=Lib.hid Z;have d0:vs 0=(Value.pointer (some ⟨d,0,none⟩)):=Z.ev 0 (by decide) (by decide) (Y 0 (by kernel_rfl));have d1:vs 1=.string nm:=Z.ev 1 (by decide) (by decide) (Y 1 (by kernel_rfl));have d12:vs 12=(Value.int .i64 (idv)):=Z.ev 12 (by decide) (by decide) (Y 12 (by kernel_rfl));have d16:vs 16=.slice pk nk ck:=Z.ev 16 (by decide) (by decide) (Y 16 (by kernel_rfl));have hc:=(XK.out w Z.bel).2.1;clear Z Y Q;simp only[Par.GivesW,d0,d1,d12,d16];go_simp;refine hc.mono ?_;rintro e y2 ⟨rfl,hb⟩;exact⟨_,rfl,(J.out.on hb).up 17 (by decide)⟩
        ·have J:=Lib.hid Z;have d17:vs 17=.tuple #[(Value.agg #[Value.int .i64 (a0),Value.int .i64 (a1),Value.string (a2)]),.bool true]:=Z.ev 17 (by decide) (by decide) (Y 17 (by kernel_rfl));clear Z Y Q;simp only[Par.GivesW,d17];go_simp;all_goals exact J.out.up 18 (by decide)
        ·have J:=Lib.hid Z;have d18:vs 18=.tuple #[(Value.agg #[Value.int .i64 (a0),Value.int .i64 (a1),Value.string (a2)]),.bool true]:=Z.ev 18 (by decide) (by decide) (Y 18 (by kernel_rfl));clear Z Y Q;simp only[Par.GivesW,d18];go_simp;all_goals exact J.out.up 19 (by decide)
        ·have J:=Lib.hid Z;have d18:vs 18=.tuple #[(Value.agg #[Value.int .i64 (a0),Value.int .i64 (a1),Value.string (a2)]),.bool true]:=Z.ev 18 (by decide) (by decide) (Y 18 (by kernel_rfl));clear Z Y Q;simp only[Par.GivesW,d18];go_simp;all_goals exact J.out.up 20 (by decide)
        ·have J:=Lib.hid Z;have h22:l 22=false:=(by cases h:l 22 with|false=>rfl|true=>exact absurd (Q 22 21 (by kernel_rfl) h) (by simp[hl]));clear Z Y Q;simp only[Par.GivesW];go_simp;all_goals exact J.out.box h22
        ·have J:=Lib.hid Z;have d19:vs 19=(Value.agg #[Value.int .i64 (a0),Value.int .i64 (a1),Value.string (a2)]):=Z.ev 19 (by decide) (by decide) (Y 19 (by kernel_rfl));have h21:=Y 21 (by kernel_rfl);obtain⟨gq,d21,_,U⟩:=Z.f21 h21;rw[if_neg (by rw[hl];decide)] at U;have q0:=nd_cell U 0;have q1:=nd_cell U 1;have q2:=nd_cell U 2;have qf:=(fun i=>frozen_of_row w gq i _ _ U);have ql:=lt_of_heap U;have HS:=Lib.hid (Z.store h21 hl d21 undef);clear Z Y Q;simp only[Par.GivesW,d19,d21];go_simp;all_goals exact HS.out
       case hJA =>
        intro vs;exact⟨below_drew wr,fun _ _ _ h=>(by cases h),fun h=>(by cases h)⟩
       case hTA =>
        intro l vs w9 hl Z;simp only[List.drop_succ_cons,List.drop_zero];obtain⟨g1,e21,hg1,U⟩:=Z.f21 (hl 21 (by decide));rw[if_pos (hl 22 (by decide))] at U;have e19:vs 19=(Value.agg #[Value.int .i64 (a0),Value.int .i64 (a1),Value.string (a2)]):=Z.ev 19 (by decide) (by decide) (hl 19 (by decide));have e20:vs 20=.bool true:=Z.ev 20 (by decide) (by decide) (hl 20 (by decide));have H9:=Lib.hid (And.intro Z.bel U);simp only[e19,e20,e21];generalize vs 0=s0;generalize vs 1=s1;generalize vs 2=s2;generalize vs 3=s3;generalize vs 4=s4;generalize vs 5=s5;generalize vs 6=s6;generalize vs 7=s7;generalize vs 8=s8;generalize vs 9=s9;generalize vs 10=s10;generalize vs 11=s11;generalize vs 12=s12;generalize vs 13=s13;generalize vs 14=s14;generalize vs 15=s15;generalize vs 16=s16;generalize vs 17=s17;generalize vs 18=s18;clear Z hl e19 e20 e21 U hg1;go_upto_region 18 with fail;refine Par.wp_region_par4 23 (Vq w9 (a0,a1,a2) (fun idx=>[(Value.pointer (some ⟨b,0,none⟩)),.string nm,(Value.pointer (some ⟨b,0,none⟩)),(Value.pointer (some ⟨b,0,none⟩)),(Value.pointer (some ⟨b,1,none⟩)),.slice (some ⟨go,0,none⟩) 4 co,(Value.int .i64 ((t:Int))),(Value.pointer (some ⟨go,t,none⟩)),.slice (some ⟨R,0,none⟩) na cr,(Value.int .i64 ((i:Int))),(Value.pointer (some ⟨R,i*2,none⟩)),(Value.pointer (some ⟨R,i*2,none⟩)),(Value.int .i64 (idv)),.slice (some ⟨ga,0,none⟩) ma ca,(Value.int .i64 ((k:Int))),(Value.pointer (some ⟨ga,k,none⟩)),.slice pk nk ck,.tuple #[(Value.agg #[Value.int .i64 (a0),Value.int .i64 (a1),Value.string (a2)]),.bool true],.tuple #[(Value.agg #[Value.int .i64 (a0),Value.int .i64 (a1),Value.string (a2)]),.bool true],(Value.agg #[Value.int .i64 (a0),Value.int .i64 (a1),Value.string (a2)]),.bool true,undef,undef].getD idx undef)) ?AB ?hmB ?hBB ?hAB ?hJB ?hopB ?hTB
        case hmB=>kernel_rfl
        case hBB=>kernel_rfl
        case hAB =>
         intro vs;simp only[Par.putA,Par.dstAt,Act.put,List.getElem?_toArray,List.getElem?_cons_zero,List.getElem?_cons_succ,Option.bind_some,List.setIfInBounds_toArray,List.set_cons_zero,List.set_cons_succ];rfl
        case hopB =>
         simp only[List.take_succ_cons,List.take_zero,Par.GiveAllK,and_true];and_intros<;>intro l vs w Z hl Y Q
         ·have J:=Lib.hid Z;clear Z Y Q;simp only[Par.GivesW];go_simp;all_goals exact J.out.up 0 (by decide)
         ·have J:=Lib.hid Z;clear Z Y Q;simp only[Par.GivesW];go_simp;all_goals exact J.out.up 1 (by decide)
         ·have J:=Lib.hid Z;clear Z Y Q;simp only[Par.GivesW];go_simp;all_goals exact J.out.up 2 (by decide)
         ·have J:=Lib.hid Z;have d2:vs 2=(Value.pointer (some ⟨b,0,none⟩)):=Z.ev 2 (by decide) (by decide) (Y 2 (by kernel_rfl));obtain⟨x1,x2,x3,xa,xb,xc⟩:=HX.out w (below_on B3.out (below_on H9.out.1 Z.bel));clear Z Y Q;simp only[Par.GivesW,d2];go_simp;all_goals exact J.out.up 3 (by decide)
         ·have J:=Lib.hid Z;have d3:vs 3=(Value.pointer (some ⟨b,0,none⟩)):=Z.ev 3 (by decide) (by decide) (Y 3 (by kernel_rfl));obtain⟨x1,x2,x3,xa,xb,xc⟩:=HX.out w (below_on B3.out (below_on H9.out.1 Z.bel));clear Z Y Q;simp only[Par.GivesW,d3];go_simp;all_goals exact J.out.up 4 (by decide)
         ·have J:=Lib.hid Z;have d4:vs 4=(Value.pointer (some ⟨b,1,none⟩)):=Z.ev 4 (by decide) (by decide) (Y 4 (by kernel_rfl));obtain⟨x1,x2,x3,xa,xb,xc⟩:=HX.out w (below_on B3.out (below_on H9.out.1 Z.bel));clear Z Y Q;simp only[Par.GivesW,d4];go_simp;all_goals exact J.out.up 5 (by decide)
         ·have J:=Lib.hid Z;clear Z Y Q;simp only[Par.GivesW];go_simp;all_goals exact J.out.up 6 (by decide)
         ·have J:=Lib.hid Z;have d5:vs 5=.slice (some ⟨go,0,none⟩) 4 co:=Z.ev 5 (by decide) (by decide) (Y 5 (by kernel_rfl));have d6:vs 6=(Value.int .i64 ((t:Int))):=Z.ev 6 (by decide) (by decide) (Y 6 (by kernel_rfl));obtain⟨x1,x2,x3,xa,xb,xc⟩:=HX.out w (below_on B3.out (below_on H9.out.1 Z.bel));clear Z Y Q;simp only[Par.GivesW,d5,d6];go_simp;all_goals exact J.out.up 7 (by decide)
         ·have J:=Lib.hid Z;have d7:vs 7=(Value.pointer (some ⟨go,t,none⟩)):=Z.ev 7 (by decide) (by decide) (Y 7 (by kernel_rfl));obtain⟨x1,x2,x3,xa,xb,xc⟩:=HX.out w (below_on B3.out (below_on H9.out.1 Z.bel));clear Z Y Q;simp only[Par.GivesW,d7];go_simp;all_goals exact J.out.up 8 (by decide)
         ·have J:=Lib.hid Z;clear Z Y Q;simp only[Par.GivesW];go_simp;all_goals exact J.out.up 9 (by decide)
         ·have J:=Lib.hid Z;have d8:vs 8=.slice (some ⟨R,0,none⟩) na cr:=Z.ev 8 (by decide) (by decide) (Y 8 (by kernel_rfl));have d9:vs 9=(Value.int .i64 ((i:Int))):=Z.ev 9 (by decide) (by decide) (Y 9 (by kernel_rfl));obtain⟨x1,x2,x3,xa,xb,xc⟩:=HX.out w (below_on B3.out (below_on H9.out.1 Z.bel));clear Z Y Q;simp only[Par.GivesW,d8,d9];go_simp;all_goals exact J.out.up 10 (by decide)
         ·have J:=Lib.hid Z;have d10:vs 10=(Value.pointer (some ⟨R,i*2,none⟩)):=Z.ev 10 (by decide) (by decide) (Y 10 (by kernel_rfl));obtain⟨x1,x2,x3,xa,xb,xc⟩:=HX.out w (below_on B3.out (below_on H9.out.1 Z.bel));clear Z Y Q;simp only[Par.GivesW,d10];go_simp;all_goals exact J.out.up 11 (by decide)
         ·have J:=Lib.hid Z;have d11:vs 11=(Value.pointer (some ⟨R,i*2,none⟩)):=Z.ev 11 (by decide) (by decide) (Y 11 (by kernel_rfl));obtain⟨x1,x2,x3,xa,xb,xc⟩:=HX.out w (below_on B3.out (below_on H9.out.1 Z.bel));clear Z Y Q;simp only[Par.GivesW,d11];go_simp;all_goals exact J.out.up 12 (by decide)
         ·have J:=Lib.hid Z;clear Z Y Q;simp only[Par.GivesW];go_simp;all_goals exact J.out.up 13 (by decide)
         ·have J:=Lib.hid Z;clear Z Y Q;simp only[Par.GivesW];go_simp;all_goals exact J.out.up 14 (by decide)
         ·have J:=Lib.hid Z;have d13:vs 13=.slice (some ⟨ga,0,none⟩) ma ca:=Z.ev 13 (by decide) (by decide) (Y 13 (by kernel_rfl));have d14:vs 14=(Value.int .i64 ((k:Int))):=Z.ev 14 (by decide) (by decide) (Y 14 (by kernel_rfl));clear Z Y Q;simp only[Par.GivesW,d13,d14];go_simp;all_goals exact J.out.up 15 (by decide)
         ·have J:=Lib.hid Z;have d15:vs 15=(Value.pointer (some ⟨ga,k,none⟩)):=Z.ev 15 (by decide) (by decide) (Y 15 (by kernel_rfl));obtain⟨⟨z1,z2⟩,_,_,_⟩:=XK.out w (below_on H9.out.1 Z.bel);clear Z Y Q;simp only[Par.GivesW,d15];go_simp;all_goals exact J.out.up 16 (by decide)
         ·have J:=Lib.hid Z;have d0:vs 0=(Value.pointer (some ⟨b,0,none⟩)):=Z.ev 0 (by decide) (by decide) (Y 0 (by kernel_rfl));have d1:vs 1=.string nm:=Z.ev 1 (by decide) (by decide) (Y 1 (by kernel_rfl));have d12:vs 12=(Value.int .i64 (idv)):=Z.ev 12 (by decide) (by decide) (Y 12 (by kernel_rfl));have d16:vs 16=.slice pk nk ck:=Z.ev 16 (by decide) (by decide) (Y 16 (by kernel_rfl));have hc:=(XK.out w (below_on H9.out.1 Z.bel)).2.2.1;clear Z Y Q;simp only[Par.GivesW,d0,d1,d12,d16];go_simp;refine hc.mono ?_;rintro e y2 ⟨rfl,hb⟩;exact⟨_,rfl,(J.out.on hb).up 17 (by decide)⟩
         ·have J:=Lib.hid Z;have d17:vs 17=.tuple #[(Value.agg #[Value.int .i64 (a0),Value.int .i64 (a1),Value.string (a2)]),.bool true]:=Z.ev 17 (by decide) (by decide) (Y 17 (by kernel_rfl));clear Z Y Q;simp only[Par.GivesW,d17];go_simp;all_goals exact J.out.up 18 (by decide)
         ·have J:=Lib.hid Z;have d18:vs 18=.tuple #[(Value.agg #[Value.int .i64 (a0),Value.int .i64 (a1),Value.string (a2)]),.bool true]:=Z.ev 18 (by decide) (by decide) (Y 18 (by kernel_rfl));clear Z Y Q;simp only[Par.GivesW,d18];go_simp;all_goals exact J.out.up 19 (by decide)
         ·have J:=Lib.hid Z;have d18:vs 18=.tuple #[(Value.agg #[Value.int .i64 (a0),Value.int .i64 (a1),Value.string (a2)]),.bool true]:=Z.ev 18 (by decide) (by decide) (Y 18 (by kernel_rfl));clear Z Y Q;simp only[Par.GivesW,d18];go_simp;all_goals exact J.out.up 20 (by decide)
         ·have J:=Lib.hid Z;have h22:l 22=false:=(by cases h:l 22 with|false=>rfl|true=>exact absurd (Q 22 21 (by kernel_rfl) h) (by simp[hl]));clear Z Y Q;simp only[Par.GivesW];go_simp;all_goals exact J.out.box h22
         ·have J:=Lib.hid Z;have d19:vs 19=(Value.agg #[Value.int .i64 (a0),Value.int .i64 (a1),Value.string (a2)]):=Z.ev 19 (by decide) (by decide) (Y 19 (by kernel_rfl));have h21:=Y 21 (by kernel_rfl);obtain⟨gq,d21,_,U⟩:=Z.f21 h21;rw[if_neg (by rw[hl];decide)] at U;have q0:=nd_cell U 0;have q1:=nd_cell U 1;have q2:=nd_cell U 2;have qf:=(fun i=>frozen_of_row w gq i _ _ U);have ql:=lt_of_heap U;have HS:=Lib.hid (Z.store h21 hl d21 undef);clear Z Y Q;simp only[Par.GivesW,d19,d21];go_simp;all_goals exact HS.out
        case hJB =>
         intro vs;exact⟨below_drew w9,fun _ _ _ h=>(by cases h),fun h=>(by cases h)⟩
        case hTB =>
         intro l vs w11 hl Z;simp only[List.drop_succ_cons,List.drop_zero];obtain⟨g2,e21,hg2,U⟩:=Z.f21 (hl 21 (by decide));rw[if_pos (hl 22 (by decide))] at U;have e19:vs 19=(Value.agg #[Value.int .i64 (a0),Value.int .i64 (a1),Value.string (a2)]):=Z.ev 19 (by decide) (by decide) (hl 19 (by decide));have e20:vs 20=.bool true:=Z.ev 20 (by decide) (by decide) (hl 20 (by decide));have H11:=Lib.hid (And.intro Z.bel U);simp only[e19,e20,e21];generalize vs 0=r0;generalize vs 1=r1;generalize vs 2=r2;generalize vs 3=r3;generalize vs 4=r4;generalize vs 5=r5;generalize vs 6=r6;generalize vs 7=r7;generalize vs 8=r8;generalize vs 9=r9;generalize vs 10=r10;generalize vs 11=r11;generalize vs 12=r12;generalize vs 13=r13;generalize vs 14=r14;generalize vs 15=r15;generalize vs 16=r16;generalize vs 17=r17;generalize vs 18=r18;clear Z hl e19 e20 e21 U hg2;go_upto_region 19 with fail;have m1:=heap_on H11.out.1 H9.out.2;have m2:=H11.out.2;have f0:=nd_cell m1 0;have f1:=nd_cell m1 1;have f2:=nd_cell m1 2;have g0':=nd_cell m2 0;have g1':=nd_cell m2 1;have g2':=nd_cell m2 2;have fl:=lt_of_heap m1;have gl:=lt_of_heap m2;have hq1:=EQ.out w11;clear m1 m2;go_wp2_with (go_at_call 22;(with_reducible refine hq1.mono ?_);rintro e w13 ⟨rfl,hb13⟩;have H13:=Lib.hid (XK.out w13 (below_on H9.out.1 (below_on H11.out.1 hb13))).2.2.2;clear hq1 hb13 f0 f1 f2 g0' g1' g2' fl gl);go_roundg (ma-k)
         case measure=>omega
         case rel=>exact⟨k+1,by go_num,by omega,by omega,H13.out⟩
      ·have B3:=Lib.hid hB3;clear hB3;go_wp2_with fail;go_roundg (na-i)
       case measure=>omega
       case rel=>exact⟨i+1,by go_num,by omega,by omega,by omega,B3.out⟩
    ·have HB2:=Lib.hid hB2;clear hB2;by_cases hd1:na<=i
     ·have e1:i=na:=(by omega);subst e1;go_wp2_with fail;go_roundg (4-t)
      case measure=>omega
      case rel=>exact⟨t+1,by go_num,by omega,by omega,below_on H8.out.1 HB2.out⟩
     ·have e1:i=6:=(by omega);subst e1;have hii:(6:Int)<(na:Int):=(by omega);go_wp2_with fail;go_roundg (4-t)
      case measure=>omega
      case rel=>exact⟨t+1,by go_num,by omega,by omega,below_on H8.out.1 HB2.out⟩
  ·obtain rfl:t=4:=(by omega);have HB:=Lib.hid hB;clear hB;go_wp2_with fail;go_ret;exact⟨rfl,below_on H7.out.2.1 HB.out⟩
