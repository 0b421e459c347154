import Derived.Test.YtjepplacnaoomaaGreatZw30
import Derived.Test.YtjepplacnaoomaaGreatZw34
import Derived.Test.YtjepplacnaoomaaGreatZw35
import Derived.Test.YtjepplacnaoomaaGreatZw10
set_option maxHeartbeats 8000000
set_option maxRecDepth 100000
namespace Go.Proofs.YtjepplacnaoomaaGreat
open Go Go.RowKit Go.Proofs Co Co.S
def cutT (x:T3):T3:=(x.1,x.2.1,cutB 20 x.2.2)
def cutR (N:Nat) (xs:List T3):List T3:=(xs.map cutT).take N
theorem cutR_len (N:Nat) (xs:List T3):(cutR N xs).length<=N:=by simp[cutR];omega
theorem cutR_snoc (xs:List T3) (k:Nat) (h:k<xs.length):cells3 ((xs.map cutT).take (k+1))=cells3 ((xs.map cutT).take k)++[.int .i64 xs[k].1,.int .i64 xs[k].2.1,.string (cutB 20 xs[k].2.2)]:=by
 rw[List.take_succ_eq_append_getElem (by simpa using h),cells3_append];simp[cells3,cutT]
theorem vals_any {S:Nat->Prop} {v:Value} {xs:List T3} {W:World} {N:Nat} (hN:N<=1000) (h:InV S W v xs) (hs:∀ x∈xs,x.2.2.size<=maxLen) :
  Calls Tryz.prog 52 #[v,.int .i64 (N:Int)] W fun e w'=>∃ v',e=.returned v'/\HRow w' W.heap.size 26 3 v' (cutR N xs).length (cells3 (cutR N xs))/\Below W.heap.size W w':=by
 obtain⟨p,c,rfl,_,hm⟩:=h.slice;obtain⟨n,hn⟩:∃ n,xs.length=n:=⟨_,rfl⟩;have hn':(n:Int)<=9223372036854775807:=(by unfold maxLen at hm;omega);have HN:=Lib.hid hn;have HI:=Lib.hid h;have HS:=Lib.hid hs;rw[hn];clear h hs hm hn;go_enter Tryz.func52,Tryz.ntmps52;go_wp2_with fail;go_loopg [5,6] (N+1) (fun gh tv iv w=>∃ (k:Nat),k<=n/\k<=N/\N+1<=k+gh/\iv=.int .i64 (k:Int)/\HRow w W.heap.size 26 3 tv k (cells3 ((xs.map cutT).take k))/\Below W.heap.size W w)
 case atStart=>exact⟨0,Nat.zero_le _,Nat.zero_le _,by omega,rfl,HRow.nil,Below.refl _ _⟩
 case round =>
  obtain⟨k,hk,hk6,hg,rfl,hr,hB⟩:=hrel;obtain⟨pt,ct,rfl,_,_⟩:=hr.isslice;by_cases hlt:k<n/\k<N
  ·obtain⟨h1,h2⟩:=hlt;have hkl:k<xs.length:=(by rw[HN.out];exact h1);have hd6:(k:Int)<(N:Int):=(by omega);have hdn:(k:Int)<(n:Int):=(by omega);obtain⟨b1,o1,rfl,hb1,y0,y1,y2⟩:=(HI.out.later hB).val hkl;have hsn:=cutR_snoc xs k hkl;have hsz:=HS.out _ (List.getElem_mem hkl);obtain⟨u,hu⟩:∃ u,xs[k]=u:=⟨_,rfl⟩;rw[hu] at y0 y1 y2 hsn hsz;have hval:=val_any u.1 u.2.1 u.2.2 wr hsz;have hap:=(fun y (hy:Below wr.heap.size wr y)=>Co.S.app_one y W.heap.size (hr.later hy) (by omega) (Nat.le_trans hB.size hy.size) u.1 u.2.1 (cutB 20 u.2.2));have HB:=Lib.hid (And.intro hB (And.intro hsn hr));clear hB hsn hsz hu hr
   go_wp2_with (first
    | (go_at_call 13;(with_reducible refine hval.mono ?_);rintro e w2 ⟨rfl,hb2⟩;obtain⟨g,cap,w3,hrun,r3,g3,o3⟩:=hap w2 hb2;have H3:=Lib.hid (And.intro r3 (And.intro g3 hb2));clear hval hap r3 g3 o3 hb2)
    | (at_builtin;refine wpList_append_run rfl (.tmp 18) (.tmp 24) 56 rfl rfl rfl hrun ?_))
   go_roundg (N-k)
   case measure=>omega
   case rel =>
    obtain⟨hB,hsn,hr⟩:=HB.out;obtain⟨r3,g3,hb2⟩:=H3.out;refine⟨k+1,by omega,by omega,by omega,rfl,by rw[hsn];exact r3,?_⟩;have hB2:=hB.trans (hb2.mono hB.size);refine hB2.trans ⟨g3.os,g3.tape,g3.output,Nat.le_trans (below_alloc w2 _).size g3.size,fun q hq=>?_⟩;have hlt2:q<w2.heap.size:=Nat.lt_of_lt_of_le hq hB2.size;rw[g3.block q (by rw[World.size_alloc];omega) (fun e=>by have:=(HRow.lt hr q e.symm).1;omega)];exact (below_alloc w2 _).block q hlt2
  ·have hex:¬ k<n∨(k<n/\¬ k<N):=(by omega);have HR:=Lib.hid (And.intro hr hB)
   have he:cutR N xs=(xs.map cutT).take k:=by
    unfold cutR;rcases hex with he|⟨_,he⟩
    ·rw[List.take_of_length_le (l:=xs.map cutT) (i:=k) (by rw[List.length_map,HN.out];omega),List.take_of_length_le (by rw[List.length_map,HN.out];omega)]
    ·obtain rfl:k=N:=(by omega);rfl
   have hl:(cutR N xs).length=k:=(by rw[he,List.length_take,List.length_map,HN.out];omega);have HE:=Lib.hid (And.intro he hl);clear hlt hr hB he hl;rcases hex with hex|⟨hex,hex'⟩
   all_goals
    go_wp2_with fail;go_ret;exact⟨_,rfl,by rw[HE.out.2,HE.out.1];exact HR.out.1,HR.out.2⟩
def tgtOf (ts:List T) (x y:ByteArray):ByteArray:=(orC (colOf (colsAt ts x) y)).tgt
def rowsAt (ts:List T) (As:List (List R1)) (x:ByteArray):List R1:=(As[(ixT ts x).toNat]?).getD []
def cellA (A:List R1) (k:Nat) (id:Int):T3:=((A.find? fun a=>decide (a.1=id)).map fun a=>a.2.getD k z3).getD z3
def hasId (A:List R1) (id:Int):Bool:=A.any fun a=>decide (a.1=id)
def cellP (ts:List T) (As:List (List R1)) (x:ByteArray) (id:Int) (y:ByteArray):T3:=cellA (rowsAt ts As x) (ixC (colsAt ts x) y).toNat id
def valP (ts:List T) (As:List (List R1)):ByteArray->Int->List ByteArray->T3
 | _,_,[]=>z3
 | x,id,y::r=>if r.isEmpty=true then cellP ts As x id y else match byKeyP ts As (tgtOf ts x y) (cellP ts As x id y) with
  | none=>z3
  | some i=>valP ts As (tgtOf ts x y) i r
def valueP (ts:List T) (As:List (List R1)) (x:ByteArray) (id:Int) (p:List ByteArray):T3×Bool :=
 if (pcolL ts x p).2.2=0/\hasId (rowsAt ts As x) id=true then (valP ts As x id p,true) else (z3,false)
section
variable {ts:List T} {As:List (List R1)} {x y:ByteArray} {id:Int} {p:List ByteArray} {j:Nat}
theorem drop_last (p:List ByteArray) {j:Nat} (hj:j<p.length):(p.drop (j+1)).isEmpty=true↔j+1=p.length:=by
 constructor
 ·intro h;rw[List.isEmpty_iff] at h
  have:=congrArg List.length h
  simp only[List.length_drop,List.length_nil] at this;omega
 ·intro h;rw[List.drop_of_length_le (by omega)];rfl
theorem valP_last (hj:j<p.length) (h:j+1=p.length):valP ts As x id (p.drop j)=cellP ts As x id p[j]:=by
 rw[List.drop_eq_getElem_cons hj,valP,if_pos ((drop_last p hj).2 h)]
theorem valP_none (hj:j<p.length) (h:j+1≠p.length) (hb:byKeyP ts As (tgtOf ts x p[j]) (cellP ts As x id p[j])=none):valP ts As x id (p.drop j)=z3:=by
 rw[List.drop_eq_getElem_cons hj,valP,if_neg (fun e=>h ((drop_last p hj).1 e)),hb]
theorem valP_some (hj:j<p.length) (h:j+1≠p.length) {i:Int} (hb:byKeyP ts As (tgtOf ts x p[j]) (cellP ts As x id p[j])=some i):valP ts As x id (p.drop j)=valP ts As (tgtOf ts x p[j]) i (p.drop (j+1)):=by
 rw[List.drop_eq_getElem_cons hj,valP,if_neg (fun e=>h ((drop_last p hj).1 e)),hb]
theorem pcol_ok (hj:j<p.length) (h:(pcol ts x (p.drop j)).2.2=0):hasC (colsAt ts x) p[j]=true/\(j+1≠p.length->(pcol ts (tgtOf ts x p[j]) (p.drop (j+1))).2.2=0):=by
 rw[pcol_at ts x p hj] at h;split at h
 ·rename_i h1;refine⟨h1,fun hne=>?_⟩;rw[if_neg hne] at h;split at h
  ·exact absurd h (by decide)
  ·exact h
 ·exact absurd h (by decide)
theorem hasC_at (h:hasC (colsAt ts x) y=true):∃ (j:Nat) (hj:j<ts.length),ts[j].nm=x/\ixT ts x=(j:Int)/\findT ts x=some ts[j]/\colsAt ts x=ts[j].cols/\∃ k,k<ts[j].cols.length/\ixC ts[j].cols y=(k:Int):=by
 rcases ixT_cases ts x with ⟨_,_,h3⟩ | ⟨j,hj,h1,_,h3⟩
 ·rw[colsAt,h3] at h;simp[hasC,orT,zeroT] at h
 ·have e:colsAt ts x=ts[j].cols:=(by rw[colsAt,h3];rfl);rw[e] at h;rcases ixC_casesQ ts[j].cols y with ⟨_,h2,_⟩ | ⟨k,hk,h2,_⟩
  ·rw[h2] at h;cases h
  ·have hn:ts[j].nm=x:=by
    have:=List.find?_some (l:=ts) (p:=isT x) h3
    exact bytes_ext (by simpa [isT,eqS] using this)
   exact⟨j,hj,hn,h1,h3,e,k,hk,h2⟩
theorem byRow_mem {A:List R1} {k:Nat} {v:T3} {i:Int} (h:byRow A k v=some i):hasId A i=true:=by
 unfold byRow at h;cases hf:A.find? (fun a=>decide (a.2.getD k z3=v)) with
 | none=>rw[hf] at h;cases h
 | some a =>
  rw[hf] at h;simp only[Option.map_some,Option.some.injEq] at h;unfold hasId;rw[List.any_eq_true];exact⟨a,List.mem_of_find?_eq_some hf,by simpa using h⟩
theorem byKeyP_mem {v:T3} {i:Int} (h:byKeyP ts As x v=some i):hasId (rowsAt ts As x) i=true:=by
 unfold byKeyP at h;split at h
 ·rename_i t A h1 h2;rw[rowsAt,h2];split at h
  ·cases h
  ·split at h
   ·cases h
   ·split at h
    ·cases h
    ·exact byRow_mem h
 ·cases h
theorem hasId_mem {A:List R1} {i:Int}:hasId A i=true↔∃ a∈A,a.1=i:=by
 unfold hasId;rw[List.any_eq_true]
 simp
theorem hasId_no {A:List R1} {i:Int}:hasId A i=false↔∀ a∈A,a.1≠i:=by
 unfold hasId;rw[List.any_eq_false]
 simp
theorem cellA_of {A:List R1} {i:Int} (h:hasId A i=true):∃ a∈A,a.1=i/\∀ k,cellA A k i=a.2.getD k z3:=by
 unfold hasId at h;have hs:(A.find? fun a=>decide (a.1=i)).isSome=true:=List.find?_isSome.2 (List.any_eq_true.1 h);obtain⟨a,ha⟩:=Option.isSome_iff_exists.1 hs;refine⟨a,List.mem_of_find?_eq_some ha,by simpa using List.find?_some ha,fun k=>?_⟩;unfold cellA;rw[ha];rfl
theorem cellA_no {A:List R1} {i:Int} (h:hasId A i=false) (k:Nat):cellA A k i=z3:=by
 have:A.find? (fun a=>decide (a.1=i))=none:=by
  rw[List.find?_eq_none];unfold hasId at h;rw[List.any_eq_false] at h;exact h
 unfold cellA;rw[this];rfl
end
theorem colsAt_none {ts:List T} {t:ByteArray} (h:findT ts t=none):colsAt ts t=[]:=by unfold colsAt;rw[h];rfl
theorem colsAt_some {ts:List T} {t:ByteArray} {u:T} (h:findT ts t=some u):colsAt ts t=u.cols:=by unfold colsAt;rw[h];rfl
theorem rcolOf_is {t:T} {nm key:ByteArray} {cv dv:Value} {x:ByteArray} {W:World} {z:Int} (h:RdT W cv dv t) (hn:t.nm=nm) (hk:t.key=key) (hz:ixC t.cols x=z):Calls Tryz.prog 61 #[.agg #[.string nm,cv,.string key,dv],.string x] W fun e w'=>e=.returned (.int .i64 z)/\Below W.heap.size W w':=by
 subst hn hk hz;exact rcolOf_any h
theorem refCol_any {ts:List T} {pv v:Value} {tb:ByteArray} {p:List ByteArray} {W:World} (h:RdTs W pv ts) (hp:RdS W v p):Calls Tryz.prog 64 #[pv,.string tb,v] W fun e w'=>e=.returned (.tuple #[colVQ (pcolL ts tb p).1,.string (pcolL ts tb p).2.1,.int .i64 (pcolL ts tb p).2.2])/\Below W.heap.size W w':=by
 obtain⟨q,cap,rfl,hc,hm⟩:=hp.slice;obtain⟨pt,capt,rfl,hct,hmt⟩:=h.slice;obtain⟨n,hn⟩:∃ n,p.length=n:=⟨_,rfl⟩;obtain⟨N,hNt⟩:∃ n,ts.length=n:=⟨_,rfl⟩;obtain⟨S,hS⟩:∃ S,W.heap.size=S:=⟨_,rfl⟩;unfold maxLen at hm hmt;rw[hn] at hc hp ⊢;rw[hNt] at hct h ⊢;have HP:=Lib.hid (And.intro h hp);have HN:=Lib.hid (And.intro hn hNt);have HS:=Lib.hid hS;have K0:=KS.start W;obtain⟨w0,hw0⟩:∃ w0,W.alloc (.cells #[.string e0,.int .i64 0,.bool false,.string e0] 116)=w0:=⟨_,rfl⟩;have HW:=Lib.hid hw0;rw[hw0] at K0;obtain⟨r,hr⟩:∃ r,pcolL ts tb p=r:=⟨_,rfl⟩;rw[hr]
 have FIN:Hid (∀ (w wz:World) (a b c d:Value),KS W w->(((w.setCell ⟨S,0,none⟩ a).setCell ⟨S,1,none⟩ b).setCell ⟨S,2,none⟩ c).setCell ⟨S,3,none⟩ d=wz ->
   wz.cell? ⟨S,0,none⟩=some a/\wz.cell? ⟨S,1,none⟩=some b/\wz.cell? ⟨S,2,none⟩=some c/\wz.cell? ⟨S,3,none⟩=some d/\Below W.heap.size W wz):=Lib.hid (fun w wz a b c d hk e=>by
  subst e;have hz:=hk.2;rw[hS] at hz;have h4:=set4 hz a b c d;exact⟨nd_cell h4 0,nd_cell h4 1,nd_cell h4 2,nd_cell h4 3,below_set4 hk.1 (Nat.le_of_eq hS) _ _ _ _⟩)
 have CELLS:Hid (∀ w,KS W w->S<w.heap.size/\w.cell? ⟨S,0,none⟩=some (.string e0)/\w.cell? ⟨S,1,none⟩=some (.int .i64 0)/\w.cell? ⟨S,2,none⟩=some (.bool false)/\w.cell? ⟨S,3,none⟩=some (.string e0)/\∀ i,w.frozen? ⟨S,i,none⟩=false):=Lib.hid (fun w hk=>by
  have hz:=hk.2;rw[hS] at hz;exact⟨lt_of_heap hz,nd_cell hz 0,nd_cell hz 1,nd_cell hz 2,nd_cell hz 3,fun i=>frozen_of_row w S i _ _ hz⟩)
 have HK:=Lib.hid K0;have HR:=Lib.hid hr;clear h hp hw0 hS K0 hr hn hNt;go_enter Tryz.func64,Tryz.ntmps64;go_upto_region 1 with fail;rw[HW.out,HS.out];by_cases h0:n=0
 ·subst h0;obtain⟨zl,z0,z1,z2,z3,zf⟩:=CELLS.out _ HK.out;have e:r=(zeroC,e0,5):=(by rw[<- HR.out];unfold pcolL;rw[if_pos (by rw[HN.out.1];omega)]);subst e;go_wp2_with fail;generalize hwz:(((World.setCell _ _ _).setCell _ _).setCell _ _).setCell _ _=wz;obtain⟨y0,y1,y2,y3,hB⟩:=FIN.out _ _ _ _ _ _ HK.out hwz;refine bodyPost_ret (v:=.tuple #[colVQ zeroC,_,_]) (by simp[results,Tryz.results64,go_sem,y0,y1,y2,y3,colVQ,zeroC];first|rfl|exact⟨rfl,rfl⟩) rfl ?_;exact⟨rfl,hB⟩
 ·by_cases h4:4<n
  ·obtain⟨zl,z0,z1,z2,z3,zf⟩:=CELLS.out _ HK.out;have e:r=(zeroC,e0,5):=(by rw[<- HR.out];unfold pcolL;rw[if_pos (by rw[HN.out.1];omega)]);subst e;go_wp2_with fail;generalize hwz:(((World.setCell _ _ _).setCell _ _).setCell _ _).setCell _ _=wz;obtain⟨y0,y1,y2,y3,hB⟩:=FIN.out _ _ _ _ _ _ HK.out hwz;refine bodyPost_ret (v:=.tuple #[colVQ zeroC,_,_]) (by simp[results,Tryz.results64,go_sem,y0,y1,y2,y3,colVQ,zeroC];first|rfl|exact⟨rfl,rfl⟩) rfl ?_;exact⟨rfl,hB⟩
  ·have HR0:Hid (pcol ts tb (p.drop 0)=r):=Lib.hid (by
    rw[<- HR.out];unfold pcolL;rw[if_neg (by rw[HN.out.1];omega)];rfl)
   clear HR;obtain⟨k,hk⟩:∃ k,n=k+1:=⟨n-1,by omega⟩;subst hk;have hb1:decide (((k:Int)+1)<1)=false:=decide_eq_false (by omega);have hb2:decide (4<((k:Int)+1))=false:=decide_eq_false (by omega);go_upto_region 3 with fail;go_wp2_with fail;go_loopg [1,9] (k+1) (fun gh tv jv w=>∃ (j:Nat) (t:ByteArray),jv=.int .i64 (j:Int)/\tv=.string t/\j<=k/\k+1<=j+gh/\pcol ts t (p.drop j)=r/\KS W w)
   case atStart=>exact⟨0,tb,rfl,rfl,Nat.zero_le _,by omega,HR0.out,HK.out⟩
   case round =>
    obtain⟨j,t,rfl,rfl,hj,hg,hr,hk⟩:=hrel;clear HR0;have hjl:j<p.length:=(by rw[HN.out.1];omega);have HK1:=Lib.hid hk;obtain⟨b1,o1,rfl,hb1',c1⟩:=(HP.out.2.later hk.1).word hjl;have HX:Hid (∀ w,KS W w->w.cell? ⟨b1,o1+j,none⟩=some (.string p[j])):=Lib.hid (fun w hk=>(RdS.wordAt (HP.out.2.later hk.1) hjl).2);rw[pcol_at ts t p hjl] at hr;obtain⟨x,hx⟩:∃ x,p[j]=x:=⟨_,rfl⟩;rw[hx] at hr HX;rw[HN.out.1] at hr;clear c1 hx;rcases ixT_cases ts t with ⟨h1,_,h3⟩ | ⟨m,hml,h1,_,h3⟩
    ·have hfind:=rfind_any (x:=t) (HP.out.1.later hk.1);rw[h1] at hfind;rw[colsAt_none h3,if_neg (by simp[hasC])] at hr;subst hr;clear h1 h3 hk;go_upto_region 7 with (go_at_call 46;(with_reducible refine hfind.mono ?_);rintro e w2 ⟨rfl,hw⟩;have hw:=hw.symm;subst hw);obtain⟨zl,z0,z1,z2,z3,zf⟩:=CELLS.out _ HK1.out;go_wp2_with fail;generalize hwz:(((World.setCell _ _ _).setCell _ _).setCell _ _).setCell _ _=wz;obtain⟨y0,y1,y2,y3,hB⟩:=FIN.out _ _ _ _ _ _ HK1.out hwz;refine bodyPost_ret (v:=.tuple #[colVQ zeroC,_,_]) (by simp[results,Tryz.results64,go_sem,y0,y1,y2,y3,colVQ,zeroC];first|rfl|exact⟨rfl,rfl⟩) rfl ?_;exact⟨rfl,hB⟩
    ·have hfind:=rfind_any (x:=t) (HP.out.1.later hk.1);rw[h1] at hfind;rw[colsAt_some h3] at hr;obtain⟨bt,ot,cv,dv,rfl,_,g0,g1,g2,g3,hT⟩:=RdTs.tab HP.out.1 hml;obtain⟨u,hu⟩:∃ u,ts[m]=u:=⟨_,rfl⟩;rw[hu] at hr g0 g2 hT;obtain⟨pc,kc,hcv,hcc,hcm⟩:=hT.1.slice;obtain⟨pd,kd,hdv,_,_⟩:=hT.2.slice;obtain⟨nc,hnc⟩:∃ m,u.cols.length=m:=⟨_,rfl⟩;obtain⟨nd,hnd⟩:∃ m,u.deps.length=m:=⟨_,rfl⟩;rw[hnc] at hcv hcc;rw[hnd] at hdv;subst hcv hdv;obtain⟨nm,hnm⟩:∃ m,u.nm=m:=⟨_,rfl⟩;obtain⟨key,hkey⟩:∃ m,u.key=m:=⟨_,rfl⟩;rw[hnm] at g0;rw[hkey] at g2;obtain⟨z,hz⟩:∃ z,ixC u.cols x=z:=⟨_,rfl⟩;have HCALL:Hid (∀ w,KS W w->Calls Tryz.prog 61 #[.agg #[.string nm,.slice pc nc kc,.string key,.slice pd nd kd],.string x] w fun e w'=>e=.returned (.int .i64 z)/\Below w.heap.size w w'):=Lib.hid (fun w hk=>rcolOf_is (hT.later hk.1) hnm hkey hz);have HG:Hid (∀ w,KS W w->w.cell? ⟨bt,ot+m*4,none⟩=some (.string nm)/\w.cell? ⟨bt,ot+m*4+1,none⟩=some (.slice pc nc kc)/\w.cell? ⟨bt,ot+m*4+2,none⟩=some (.string key)/\w.cell? ⟨bt,ot+m*4+3,none⟩=some (.slice pd nd kd)):=Lib.hid (fun w hk=>⟨bel_cell hk.1 g0,bel_cell hk.1 g1,bel_cell hk.1 g2,bel_cell hk.1 g3⟩);have HT:=Lib.hid (And.intro hT hnc);have hmN:m<N:=(by rw[<- HN.out.2];exact hml);have hmN2:(m:Int)<(N:Int):=(by omega);have hm0:decide ((m:Int)<0)=false:=decide_eq_false (by omega);have hjk:(j:Int)<(k:Int)+1:=(by omega);clear g0 g1 g2 g3 hT hu hnc hnd hnm hkey h1 h3 hk;go_upto_region 8 with (go_at_call 46;(with_reducible refine hfind.mono ?_);rintro e w2 ⟨rfl,hw⟩;have hw:=hw.symm;subst hw);refine Par.wp_region_par 10 [.slice (some ⟨bt,ot,none⟩) N capt,.int .i64 m,(Value.pointer (some ⟨bt,ot+m*4,none⟩)),.agg #[.string nm,.slice pc nc kc,.string key,.slice pd nd kd],.slice (some ⟨b1,o1,none⟩) (k+1) cap,.int .i64 j,(Value.pointer (some ⟨b1,o1+j,none⟩)),.string x,.int .i64 z,.int .i64 z] (fun w=>KS W w) ?A3 ?hm3 ?hB3 ?hA3 (HK1.out.drew) ?hop3 ?hT3
     case hm3=>kernel_rfl
     case hB3=>kernel_rfl
     case hA3 =>
      simp only[Par.putA,Par.dstAt,Act.put,List.getElem?_toArray,List.getElem?_cons_zero,List.getElem?_cons_succ,Option.bind_some,List.setIfInBounds_toArray,List.set_cons_zero,List.set_cons_succ,List.getD_cons_zero,List.getD_cons_succ];rfl
     case hop3 =>
      simp only[List.take_succ_cons,List.take_zero,Par.GiveAll,and_true];and_intros<;>intro w' hR
      ·have HR:=Lib.hid hR;clear hR;simp only[Par.Gives];go_simp;all_goals exact HR.out
      ·have HR:=Lib.hid hR;clear hR;simp only[Par.Gives];go_simp;all_goals exact HR.out
      ·have HR:=Lib.hid hR;clear hR;simp only[Par.Gives];go_simp;all_goals exact HR.out
      ·have HR:=Lib.hid hR;have k0:=(HG.out w' hR).1;have k1:=(HG.out w' hR).2.1;have k2:=(HG.out w' hR).2.2.1;have k3:=(HG.out w' hR).2.2.2;clear hR;simp only[Par.Gives];go_simp;all_goals exact HR.out
      ·have HR:=Lib.hid hR;clear hR;simp only[Par.Gives];go_simp;all_goals exact HR.out
      ·have HR:=Lib.hid hR;clear hR;simp only[Par.Gives];go_simp;all_goals exact HR.out
      ·have HR:=Lib.hid hR;clear hR;simp only[Par.Gives];go_simp;all_goals exact HR.out
      ·have HR:=Lib.hid hR;have k0:=HX.out w' hR;clear hR;simp only[Par.Gives];go_simp;all_goals exact HR.out
      ·have HR:=Lib.hid hR;clear hR;simp only[Par.Gives];go_simp;exact (HCALL.out _ HR.out).mono (fun e w'' ⟨he,hb⟩=>⟨he,HR.out.on hb⟩)
      ·have HR:=Lib.hid hR;clear hR;simp only[Par.Gives];go_simp;all_goals exact HR.out
     case hT3 =>
      intro w' hR;simp only[List.drop_succ_cons,List.drop_nil];have HK2:=Lib.hid hR;clear hR;rcases ixC_casesQ u.cols x with ⟨h5,h6,_⟩ | ⟨c,hcl,h5,h6,h7⟩
      ·rw[hz] at h5;subst h5;rw[h6,if_neg (by decide)] at hr;subst hr;obtain⟨zl,z0,z1,z2,z3,zf⟩:=CELLS.out _ HK2.out;clear h6 hz;go_wp2_with fail;generalize hwz:(((World.setCell _ _ _).setCell _ _).setCell _ _).setCell _ _=wz;obtain⟨y0,y1,y2,y3,hB⟩:=FIN.out _ _ _ _ _ _ HK2.out hwz;refine bodyPost_ret (v:=.tuple #[colVQ zeroC,_,_]) (by simp[results,Tryz.results64,go_sem,y0,y1,y2,y3,colVQ,zeroC];first|rfl|exact⟨rfl,rfl⟩) rfl ?_;exact⟨rfl,hB⟩
      ·rw[hz] at h5;subst h5;rw[h6,if_pos rfl,h7] at hr;obtain⟨bc,oc,rfl,hbc,-,-,-,-⟩:=RdC.col HT.out.1.1 hcl;have hcN:c<nc:=(by rw[<- HT.out.2];exact hcl);have hcN2:(c:Int)<(nc:Int):=(by omega);have hc0:decide ((c:Int)<0)=false:=decide_eq_false (by omega);obtain⟨l,hlc⟩:∃ l,u.cols[c]=l:=⟨_,rfl⟩;have e:orC (some u.cols[c])=l:=hlc;rw[e] at hr
       have HL:Hid (∀ w,KS W w->bc<w.heap.size/\w.cell? ⟨bc,oc+c*4,none⟩=some (.string l.nm)/\w.cell? ⟨bc,oc+c*4+1,none⟩=some (.int .i64 l.kd)/\w.cell? ⟨bc,oc+c*4+2,none⟩=some (.bool l.mu)/\w.cell? ⟨bc,oc+c*4+3,none⟩=some (.string l.tgt)):=Lib.hid (fun w hk=>by
        obtain⟨bb,oo,e1,hb2,d0,d1,d2,d3⟩:=RdC.col (HT.out.1.1.later hk.1) hcl;rw[hlc] at d0 d1 d2 d3;cases e1;exact⟨hb2,d0,d1,d2,d3⟩)
       obtain⟨zl,z0,z1,z2,z3,zf⟩:=CELLS.out _ HK2.out;obtain⟨i0,i1,i2,i3⟩:=HG.out _ HK2.out;obtain⟨lb,l0,l1,l2,l3⟩:=HL.out _ HK2.out;clear hz h6 h7 hlc e hcl hbc;by_cases hlt:j<k
       ·rw[if_neg (show ¬ j+1=k+1 by omega)] at hr;have hne:((j:Int)==(k:Int))=false:=(by rw[beq_eq_false_iff_ne];omega);cases he:eqS l.tgt e0
        ·rw[he,if_neg (by decide)] at hr;have HRR:=Lib.hid hr;have hx2:l.tgt.toList.isEmpty=false:=(by rw[eqS_e0];exact he);clear hr he;go_wp2_with fail;go_roundg (k-j)
         case measure=>omega
         case rel=>exact⟨j+1,l.tgt,by go_num,rfl,by omega,by omega,HRR.out,HK2.out⟩
        ·rw[he,if_pos rfl] at hr;subst hr;have hx2:l.tgt.toList.isEmpty=true:=(by rw[eqS_e0];exact he);clear he;go_wp2_with fail;generalize hwz:(((World.setCell _ _ _).setCell _ _).setCell _ _).setCell _ _=wz;obtain⟨y0,y1,y2,y3,hB⟩:=FIN.out _ _ _ _ _ _ HK2.out hwz;refine bodyPost_ret (v:=.tuple #[colVQ zeroC,_,_]) (by simp[results,Tryz.results64,go_sem,y0,y1,y2,y3,colVQ,zeroC];first|rfl|exact⟨rfl,rfl⟩) rfl ?_;exact⟨rfl,hB⟩
       ·obtain rfl:j=k:=(by omega);rw[if_pos rfl] at hr;subst hr;go_wp2_with fail;generalize hwz:(((World.setCell _ _ _).setCell _ _).setCell _ _).setCell _ _=wz;obtain⟨y0,y1,y2,y3,hB⟩:=FIN.out _ _ _ _ _ _ HK2.out hwz;refine bodyPost_ret (v:=.tuple #[colVQ l,_,_]) (by simp[results,Tryz.results64,go_sem,y0,y1,y2,y3,colVQ];first|rfl|exact⟨rfl,rfl⟩) rfl ?_;exact⟨rfl,hB⟩
