import Derived.Test.YthlccadnojnkaaaGreatZk47
import Derived.Test.YthlccadnojnkaaaGreatZk42
import Derived.Test.YthlccadnojnkaaaGreatZk25
import Derived.Test.YthlccadnojnkaaaGreatZk40
set_option maxHeartbeats 8000000
set_option maxRecDepth 100000
namespace Go.Proofs.YthlccadnojnkaaaGreat
open Go Go.RowKit Go.Proofs Co Co.S
section
variable {K:Nat->Prop} {W0 w:World} {d b m:Nat} {ts:List T} {ps:List Nat} {L1 L2:List PT}
theorem PD.check (h:PD K W0 w d b ts ps L1 L2) (hok:AllOk ts) (hm:∀ x∈L1,SmP m x) (hm3:m<=1000) :
  Calls Tryz.prog 18 #[.pointer (some ⟨d,0,none⟩)] w fun e w'=>e=.returned (fltV (checkF ts (L1.map (·.2))).1 0 (checkF ts (L1.map (·.2))).2.1 (checkF ts (L1.map (·.2))).2.2.1 (checkF ts (L1.map (·.2))).2.2.2)/\Below w.heap.size w w':=by
 obtain⟨st,O,hD,_,rfl⟩:=h.dd;have e:(st.map (·.2)).map (·.2)=rowsOf st:=(by rw[List.map_map];rfl);rw[e];refine qA hD hok (fun s hs=>?_)
 have:=hm _ (List.mem_map.2 ⟨s,hs,rfl⟩)
 unfold SmP at this;omega
theorem PD.ncheck (h:PD K W0 w d b ts ps L1 L2) (hok:AllOk ts) (hneg:∀ t∈ts,ixC t.cols e0<0) (h0t:0<ts.length) (hm:∀ x∈L2,SmP m x) (hm3:m<=1000) :
  Calls Tryz.prog 20 #[.pointer (some ⟨b,0,none⟩)] w fun e w'=>e=.returned (fltV (checkF ts (L2.map (·.2))).1 0 (checkF ts (L2.map (·.2))).2.1 (checkF ts (L2.map (·.2))).2.2.1 (checkF ts (L2.map (·.2))).2.2.2)/\Below w.heap.size w w':=by
 obtain⟨tt,i,O,hD,rfl⟩:=h.dbn;have e:(tt.map keyN).map (·.2)=rowsN tt:=(by rw[List.map_map];rfl);rw[e];refine oB hD hok hneg h0t (fun y hy=>?_)
 have:=hm _ (List.mem_map.2 ⟨y,hy,rfl⟩)
 unfold SmP at this;have e2:(keyN y).2=y.A:=rfl;rw[e2] at this;omega
end
def colB (t:T) (x:ByteArray):Bool:=decide (0<=ixC t.cols x)
theorem rT {t:T} {x:ByteArray} (h:colB t x=true):isCol t x:=by
 have h:=of_decide_eq_true h;rcases gE t.cols x with e|⟨j,hj,e⟩
 ·omega
 exact⟨j,e,hj⟩
def formB (t:T):Bool:=(decide (t.key=e0) || colB t t.key)&&t.deps.all (fun d=>d.left.all (colB t)&&colB t d.right&&decide (d.left.length<=1000))&&decide (t.cols.length<=1000)&&decide (t.deps.length<=1000)
theorem aDW {t:T} (h:formB t=true):FormOk t:=by
 unfold formB at h;simp only[Bool.and_eq_true,Bool.or_eq_true,decide_eq_true_eq,List.all_eq_true] at h;obtain⟨⟨⟨h1,h2⟩,h3⟩,h4⟩:=h;exact⟨h1.imp id rT,fun d hd=>⟨fun x hx=>rT ((h2 d hd).1.1 x hx),rT (h2 d hd).1.2,(h2 d hd).2⟩,h3,h4⟩
theorem aDX:((pre 4).all formB)=true:=by kernel_rfl
theorem aHr:((pre 4).all fun t=>(List.range t.cols.length).all fun c=>decide (ixC t.cols (cAt t c).nm=(c:Int)))=true:=by kernel_rfl
theorem aHs:((List.range 4).all fun j=>decide (ixT (pre 4) ((pre 4).getD j ⟨e0,[],e0,[]⟩).nm=(j:Int)))=true:=by kernel_rfl
theorem aFM:((pre 4).all fun t=>decide (ixC t.cols e0<0))=true:=by kernel_rfl
theorem fS:∀ t∈pre 4,ixC t.cols e0<0:=fun t ht=>of_decide_eq_true (List.all_eq_true.1 aFM t ht)
theorem bE:AllOk (pre 4) where
 inv:=cO 4 (by decide)
 few:=bQ 4
 sh:=aO
 n:=by decide
 form:=fun t ht=>aDW (List.all_eq_true.1 aDX t ht)
 pos:=fun t ht=>(cL t ht).1
 ix:=fun t ht c hc=>by
  have:=List.all_eq_true.1 (List.all_eq_true.1 aHr t ht) c (List.mem_range.2 hc)
  rw[oA hc] at this;exact of_decide_eq_true this
 un:=fun j hj=>by
  have hj4:j<4:=hj
  have:=of_decide_eq_true (List.all_eq_true.1 aHs j (List.mem_range.2 hj4))
  rw[List.getD_eq_getElem?_getD,List.getElem?_eq_getElem hj,Option.getD_some] at this;rcases bZ (pre 4) (pre 4)[j].nm with ⟨e1,_,_⟩ | ⟨k,hk,e1,_,e3⟩
  ·omega
  ·obtain rfl:k=j:=(by omega);exact e3
theorem aU (n:Int) (W:World):Calls Tryz.prog 15 #[.int .i64 n] W fun e w'=>e=.returned (Value.agg #[Value.int .i64 (1),Value.int .i64 (n),Value.string (e0)])/\Below W.heap.size W w':=by
 have hb1:=aD W (.cells #[.int .i64 0,.int .i64 0,.string e0] 32);have k1:=heap_alloc_new W (.cells #[.int .i64 0,.int .i64 0,.string e0] 32);obtain⟨w1,hw1⟩:∃ w1,W.alloc (.cells #[.int .i64 0,.int .i64 0,.string e0] 32)=w1:=⟨_,rfl⟩;obtain⟨B,hB⟩:∃ B,W.heap.size=B:=⟨_,rfl⟩;rw[hw1] at hb1 k1;rw[hB] at k1;have x0:=aA k1 0;have x1:=aA k1 1;have x2:=aA k1 2;have xf:=(fun i=>frozen_of_row w1 B i _ _ k1);have xl:=aC k1;have HW:=qAq (qBq hw1 (qBq hB (qBq hb1 k1)));clear hw1 hB hb1 k1;go_enter Tryz.func15,Tryz.ntmps15;go_upto_region 1 with fail;rw[HW.out.1,HW.out.2.1];go_wp2_with fail;generalize hwz:((World.setCell _ _ _).setCell _ _).setCell _ _=wz;have h3:=jT HW.out.2.2.2 (.int .i64 1) (.int .i64 n) (.string e0);have hbz:=bL HW.out.2.2.1 (Nat.le_of_eq HW.out.2.1) (.int .i64 1) (.int .i64 n) (.string e0);rw[hwz] at h3 hbz;have y0:=aA h3 0;have y1:=aA h3 1;have y2:=aA h3 2;refine bodyPost_ret (v:=(Value.agg #[Value.int .i64 (1),Value.int .i64 (n),Value.string (e0)])) (by simp[results,Tryz.results15,go_sem,y0,y1,y2]) rfl ?_;exact⟨rfl,hbz⟩
theorem aX (s:ByteArray) (W:World):Calls Tryz.prog 16 #[.string s] W fun e w'=>e=.returned (Value.agg #[Value.int .i64 (2),Value.int .i64 (0),Value.string (s)])/\Below W.heap.size W w':=by
 have hb1:=aD W (.cells #[.int .i64 0,.int .i64 0,.string e0] 32);have k1:=heap_alloc_new W (.cells #[.int .i64 0,.int .i64 0,.string e0] 32);obtain⟨w1,hw1⟩:∃ w1,W.alloc (.cells #[.int .i64 0,.int .i64 0,.string e0] 32)=w1:=⟨_,rfl⟩;obtain⟨B,hB⟩:∃ B,W.heap.size=B:=⟨_,rfl⟩;rw[hw1] at hb1 k1;rw[hB] at k1;have x0:=aA k1 0;have x1:=aA k1 1;have x2:=aA k1 2;have xf:=(fun i=>frozen_of_row w1 B i _ _ k1);have xl:=aC k1;have HW:=qAq (qBq hw1 (qBq hB (qBq hb1 k1)));clear hw1 hB hb1 k1;go_enter Tryz.func16,Tryz.ntmps16;go_upto_region 1 with fail;rw[HW.out.1,HW.out.2.1];go_wp2_with fail;generalize hwz:((World.setCell _ _ _).setCell _ _).setCell _ _=wz;have h3:=jT HW.out.2.2.2 (.int .i64 2) (.int .i64 0) (.string s);have hbz:=bL HW.out.2.2.1 (Nat.le_of_eq HW.out.2.1) (.int .i64 2) (.int .i64 0) (.string s);rw[hwz] at h3 hbz;have y0:=aA h3 0;have y1:=aA h3 1;have y2:=aA h3 2;refine bodyPost_ret (v:=(Value.agg #[Value.int .i64 (2),Value.int .i64 (0),Value.string (s)])) (by simp[results,Tryz.results16,go_sem,y0,y1,y2]) rfl ?_;exact⟨rfl,hbz⟩abbrev oF:Array Value:=#[.int .i64 0,.string e0,.int .i64 0,.string e0,.slice none 0 0]
abbrev putV (nm:ByteArray) (v:Value):Value:=.agg #[.int .i64 1,.string nm,.int .i64 0,.string e0,v]
theorem kM {S:Nat->Prop} {v:Value} {vals:List T3} (nm:ByteArray) {W:World} (h:InV S W v vals) (h0:0<vals.length) (h1:vals.length<=1000) :
  Calls Tryz.prog 14 #[.string nm,v] W fun e w'=>∃ g cap,e=.returned (putV nm (.slice (some ⟨g,0,none⟩) vals.length cap))/\HRow w' W.heap.size 32 3 (.slice (some ⟨g,0,none⟩) vals.length cap) vals.length (cells3 vals)/\Below W.heap.size W w':=by
 have hb1:=aD W (.cells oF 29);have k1:=heap_alloc_new W (.cells oF 29);obtain⟨w1,hw1⟩:∃ w1,W.alloc (.cells oF 29)=w1:=⟨_,rfl⟩;obtain⟨B,hB⟩:∃ B,W.heap.size=B:=⟨_,rfl⟩;rw[hw1] at hb1 k1;rw[hB] at k1;obtain⟨g,cap,w2,hrun,hr,hb2⟩:=mZ (h.later hb1) h1 h0;obtain⟨n,hn⟩:∃ n,vals.length=n:=⟨_,rfl⟩;rw[hn] at hrun hr;rw[hn];have k2:=aE hb2 k1;have x0:=aA k2 0;have x1:=aA k2 1;have x2:=aA k2 2;have x3:=aA k2 3;have x4:=aA k2 4;have xf:=(fun i=>frozen_of_row w2 B i _ _ k2);have xl:=aC k2
 have hBg:B≠g:=by
  have h1:=(HRow.lt hr g rfl).1;have h2:=aC k1;omega
 have hle:W.heap.size<=w1.heap.size:=hb1.size;obtain⟨p,c,rfl,_,_⟩:=h.slice;rw[hn] at hrun;have HW:=qAq (qBq hw1 (qBq hB (qBq k2 (qBq (aB hb1 hb2) (qBq (hr.mono hle) hBg)))));rw[hn];clear hw1 hB hb1 k1 hb2 hr k2 h h0 h1 hn hBg hle;go_enter Tryz.func14,Tryz.ntmps14;go_upto_region 1 with fail;rw[HW.out.1,HW.out.2.1];go_wp2_with (at_builtin;refine aK rfl (.const (.slice none 0 0)) (.tmp 6) 27 rfl rfl rfl hrun ?_);generalize hwz:((((World.setCell _ _ _).setCell _ _).setCell _ _).setCell _ _).setCell _ _=wz;have h5:=gS HW.out.2.2.1 (.int .i64 1) (.string nm) (.int .i64 0) (.string e0) (.slice (some ⟨g,0,none⟩) n cap);have hg5:=aW w2 B (.int .i64 1) (.string nm) (.int .i64 0) (.string e0) (.slice (some ⟨g,0,none⟩) n cap);rw[hwz] at h5 hg5;have hbz:Below W.heap.size W wz:=aT HW.out.2.2.2.1 (Nat.le_refl _) hg5 (Nat.le_of_eq HW.out.2.1)
 have hrz:HRow wz W.heap.size 32 3 (.slice (some ⟨g,0,none⟩) n cap) n (cells3 vals):=HW.out.2.2.2.2.1.of (fun q hq=>by
  have hq:g=q:=(by simpa [Value.ownBlock] using hq);subst hq;exact hg5.block _ (HRow.lt HW.out.2.2.2.2.1 _ rfl).2 (fun e=>HW.out.2.2.2.2.2 (Option.some.inj e).symm))
 have y0:=aA h5 0;have y1:=aA h5 1;have y2:=aA h5 2;have y3:=aA h5 3;have y4:=aA h5 4;refine bodyPost_ret (v:=putV nm (.slice (some ⟨g,0,none⟩) n cap)) (by simp[results,Tryz.results14,go_sem,y0,y1,y2,y3,y4]) rfl ?_;exact⟨g,cap,rfl,hrz,hbz⟩
theorem aDY {K:Nat->Prop} {W0 w0:World} {d b:Nat} {ts:List T} {ps:List Nat} {L1 L2:List PT} {p:Option Addr} {cap:Nat} {ops:List OpX} {m:Nat} (h:PD K W0 w0 d b ts ps L1 L2) (hread:∀ j (hj:j<ops.length),∃ g o vv,p=some ⟨g,o,none⟩/\∀ w:World,(∀ q,K q->w.heap[q]?=W0.heap[q]?)->(w.cell? ⟨g,o+j*5,none⟩=some (.int .i64 ops[j].dO)/\w.cell? ⟨g,o+j*5+1,none⟩=some (.string ops[j].tbl)/\w.cell? ⟨g,o+j*5+2,none⟩=some (.int .i64 ops[j].id)/\w.cell? ⟨g,o+j*5+3,none⟩=some (.string ops[j].col)/\w.cell? ⟨g,o+j*5+4,none⟩=some vv/\g<w.heap.size)/\InV K w vv ops[j].vals) (hi:InvQ ts) (hfew:AllFew ts) (hsz:Short ts) (hcs:∀ t∈ts,0<t.cols.length/\t.cols.length<=1000)
  (h1:∀ x∈L1,SmP m x) (h2:∀ x∈L2,SmP m x) (hm:m+ops.length<=590) (hops:∀ o∈ops,OpOk o) :
  Calls Tryz.prog 17 #[.pointer (some ⟨d,0,none⟩),.pointer (some ⟨b,0,none⟩),.slice p ops.length cap] w0 fun e w'=>e=.returned (.tuple #[])/\PD K W0 w' d b ts ps (fillP ts L1 ops) (fillP ts L2 ops):=by
 obtain⟨n,hn⟩:∃ n,ops.length=n:=⟨_,rfl⟩;have HREAD:Hid (∀ j (hj:j<ops.length),_):=qAq (fun j hj=>hread j hj);have HF:=qAq (qBq hi (qBq hfew (qBq hsz (qBq hcs (qBq h1 (qBq h2 (qBq hm (qBq hops hn))))))));have HP:=qAq h;rw[hn];clear hread hi hfew hsz hcs h1 h2 hm hops hn h;go_enter Tryz.func17,Tryz.ntmps17;have hn3:(n:Int)<=590:=(by have h1:=HF.out.2.2.2.2.2.2.1;have h2:=HF.out.2.2.2.2.2.2.2.2;omega);go_wp2_with fail;go_loopg [6] (n+1) (fun gh jv w=>∃ (j:Nat),jv=.int .i64 (j:Int)/\j<=n/\n+1<=j+gh/\PD K W0 w d b ts ps (fillP ts L1 (ops.take j)) (fillP ts L2 (ops.take j)))
 case atStart=>exact⟨0,rfl,Nat.zero_le _,by omega,HP.out⟩
 obtain⟨j,rfl,hj,hg,hPD⟩:=hrel;by_cases hlt:j<n
 ·have hji:(j:Int)<(n:Int):=(by omega);have hjo:j<ops.length:=(by rw[HF.out.2.2.2.2.2.2.2.2];exact hlt);obtain⟨g,go,vv,rfl,hrd⟩:=HREAD.out j hjo;obtain⟨⟨c0,c1,c2,c3,c4,gl⟩,hv⟩:=hrd wr (fun q hq=>hPD.still hq);obtain⟨pv,cv,rfl,_,_⟩:=hv.slice;have hok:=HF.out.2.2.2.2.2.2.2.1 _ (List.getElem_mem hjo);have hs1:=dY (ts:=ts) (l:=ops.take j) HF.out.2.2.2.2.1;have hs2:=dY (ts:=ts) (l:=ops.take j) HF.out.2.2.2.2.2.1;have htk:(ops.take j).length=j:=(by rw[List.length_take];omega);rw[htk] at hs1 hs2;have hm3:m+j<=590:=(by have:=HF.out.2.2.2.2.2.2.1;omega);have hF1:=nW (ts:=ts) (L:=L1) hjo;have hF2:=nW (ts:=ts) (L:=L2) hjo;generalize fillP ts L1 (ops.take j)=A at hPD hs1 hF1;generalize fillP ts L2 (ops.take j)=B at hPD hs2 hF2;obtain⟨A',hA'⟩:∃ x,fillP ts L1 (ops.take (j+1))=x:=⟨_,rfl⟩;obtain⟨B',hB'⟩:∃ x,fillP ts L2 (ops.take (j+1))=x:=⟨_,rfl⟩;rw[hA'] at hF1;rw[hB'] at hF2;have HAB:=qAq (qBq hA' hB');clear hA' hB';obtain⟨o,ho⟩:∃ o,ops[j]=o:=⟨_,rfl⟩;simp only[ho] at c0 c1 c2 c3 c4 hv hok hF1 hF2;obtain⟨k,hk⟩:∃ k,o.vals.length=k:=⟨_,rfl⟩;rw[hk] at c4 hv;obtain⟨V,hV⟩:∃ V,wr.heap.size=V:=⟨_,rfl⟩;have hba:=aD wr (.cells #[.int .i64 o.dO,.string o.tbl,.int .i64 o.id,.string o.col,.slice pv k cv] 29);have hna:=heap_alloc_new wr (.cells #[.int .i64 o.dO,.string o.tbl,.int .i64 o.id,.string o.col,.slice pv k cv] 29);have hz:=World.size_alloc wr (.cells #[.int .i64 o.dO,.string o.tbl,.int .i64 o.id,.string o.col,.slice pv k cv] 29);have hP1:=hPD.with hba;have hv1:=hv.later hba;obtain⟨w1,hw1⟩:∃ w1,wr.alloc (.cells #[.int .i64 o.dO,.string o.tbl,.int .i64 o.id,.string o.col,.slice pv k cv] 29)=w1:=⟨_,rfl⟩;rw[hw1] at hba hna hP1 hz hv1;rw[hV] at hna hP1 hz;obtain⟨K',hK'⟩:∃ K':Nat->Prop,(fun q=>K q∨(V<=q/\q<w1.heap.size))=K':=⟨_,rfl⟩;rw[hK'] at hP1;have hKK:∀ q,K q->K' q:=(fun q hq=>by rw[<- hK'];exact .inl hq);have hKV:K' V:=(by rw[<- hK'];exact .inr ⟨Nat.le_refl _,by omega⟩);have hv1:InV K' w1 (.slice pv k cv) o.vals:=hv1.mono (fun q _ hq=>hKK q hq);have HBK:Hid (∀ w (X Y:List PT),PD K' w1 w d b ts ps X Y->PD K W0 w d b ts ps X Y):=qAq (fun w X Y hx=>(hPD.later hba).back hx hKK)
  have HST:Hid (∀ (w:World) (X Y:List PT),PD K' w1 w d b ts ps X Y->w.heap[V]?=some (.cells #[.int .i64 o.dO,.string o.tbl,.int .i64 o.id,.string o.col,.slice pv k cv] 29)/\InV K' w (.slice pv k cv) o.vals):=qAq (fun w X Y hx=>by
   refine⟨(hx.still hKV).trans hna,?_⟩;obtain⟨st,tt,⟨_,_,_,_,_,_,_,hT⟩,_⟩:=hx;exact hv1.tn hT (fun q hq hn=>hn hq))
  obtain⟨tt0,i0,Ob0,hDN,hL0⟩:=hP1.dbn;have hbox:=hDN.box;have hfind:=cJ (x:=o.tbl) hDN.rdTs;have HBX:Hid (∀ w,Below w1.heap.size w1 w->w.heap[b]?=some (.cells #[i0.sv,i0.ov,i0.nv] 71)/\w.heap[V]?=some (.cells #[.int .i64 o.dO,.string o.tbl,.int .i64 o.id,.string o.col,.slice pv k cv] 29)/\Calls Tryz.prog 36 #[i0.sv,.string o.tbl] w fun e w'=>e=.returned (.int .i64 (ixT ts o.tbl))/\w'=w):=qAq (fun w hw=>⟨aE hw hbox,aE hw hna,cJ (hDN.later hw).rdTs⟩);have HC:=qAq (qBq hP1 (qBq hok (qBq hs1 (qBq hs2 (qBq hm3 (qBq hF1 (qBq hF2 hk)))))));clear hfind hbox hDN hL0 hv hrd hKK hKV hK' hba hna hz hP1 hv1 hok hs1 hs2 hm3 hF1 hF2 hk htk;go_upto_region 4 with fail
  try rw[hw1]
  try rw[hV]
  clear c0 c1 c2 c3 c4 gl hw1 hV;rcases bZ ts o.tbl with ⟨e1,e2,_⟩ | ⟨t,ht,e1,e2,e3⟩
  ·have htab:∀ w,Below w1.heap.size w1 w->Calls Tryz.prog 29 #[.pointer (some ⟨d,0,none⟩),.string o.tbl] w fun e w'=>e=.returned (.pointer none)/\Below w.heap.size w w':=fun w hw=>by
    obtain⟨st,O,hD,_⟩:=(HC.out.1.later hw).dd;exact hD.notable HF.out.2.1 HC.out.2.1.tbl e2
   have HT:=qAq htab;have HE1:=qAq e1;rw[e1] at HBX;clear e1 e2 htab;refine Par.wp_region_par 13 [.pointer (some ⟨d,0,none⟩),.pointer (some ⟨V,1,none⟩),.string o.tbl,.pointer none,.pointer (some ⟨b,0,none⟩),.pointer (some ⟨b,0,none⟩),.pointer (some ⟨b,0,none⟩),i0.sv,.pointer (some ⟨V,1,none⟩),.string o.tbl,.int .i64 (-1),.pointer none,.int .i64 (-1)] (fun w=>Below w1.heap.size w1 w) ?A1 ?hm1 ?hB1 ?hA1 ((aF w1)) ?hop1 ?hT1
   case hm1=>kernel_rfl
   case hB1=>kernel_rfl
   case hA1 =>
    simp only[Par.putA,Par.dstAt,Act.put,qDq,qEq,qFq,qLq,qGq,qHq,qIq,qJq,qKq];rfl
   case hop1 =>
    simp only[qMq,List.take_zero,Par.GiveAll,and_true];and_intros<;>intro w' hR<;>have HR:=qAq hR
    rotate_left;have zl:=aC (HBX.out w' hR).2.1;rotate_left;have z1:=aA (HBX.out w' hR).2.1 1;rotate_left
    ·clear hR;simp only[Par.Gives];go_simp;exact (HT.out w' HR.out).mono (fun e w'' ⟨he,hb⟩=>⟨he,aB HR.out hb⟩)
    rotate_left;have zl:=aC (HBX.out w' hR).1;rotate_left;have zl:=aC (HBX.out w' hR).1;rotate_left;have z1:=aA (HBX.out w' hR).1 0;rotate_left;have zl:=aC (HBX.out w' hR).2.1;rotate_left;have z1:=aA (HBX.out w' hR).2.1 1;rotate_left
    ·clear hR;simp only[Par.Gives];go_simp;exact ((HBX.out w' HR.out).2.2).mono (fun e w'' ⟨he,hb⟩=>⟨he,hb▸HR.out⟩)
    rotate_left 2
    all_goals(clear hR;simp only[Par.Gives];go_simp;all_goals exact HR.out)
   intro w' hR;simp only[qNq,List.drop_nil];have hPe:=HBK.out _ _ _ (HC.out.1.later hR);have hN1:=HC.out.2.2.2.2.2.1;have hN2:=HC.out.2.2.2.2.2.2.1;rw[kK (by rw[HE1.out];omega)] at hN1 hN2;subst hN1 hN2;have HPe:=qAq hPe;clear hR hPe;go_wp2_with fail;go_roundg (n-j)
   case measure=>omega
   exact⟨j+1,rfl,by omega,by omega,by rw[HAB.out.1,HAB.out.2];exact HPe.out⟩
  have hp:t<ps.length:=(by rw[HC.out.1.len.1];exact ht);have hA:t<A.length:=(by rw[HC.out.1.len.2.1];exact ht);have hB:t<B.length:=(by rw[HC.out.1.len.2.2];exact ht);have hsz:=HF.out.2.2.1 _ (List.getElem_mem ht);have hnm:ts[t].nm=o.tbl:=iJ e3
  have htab:∀ w,Below w1.heap.size w1 w->Calls Tryz.prog 29 #[.pointer (some ⟨d,0,none⟩),.string o.tbl] w fun e w'=>e=.returned (Value.pointer (some ⟨ps[t],0,none⟩))/\w'=w:=fun w hw=>by
   have:=(HC.out.1.later hw).table ht hsz hp
   rw[hnm] at this;exact this
  have HT:=qAq htab;rw[e1] at HBX;have hN1:=HC.out.2.2.2.2.2.1;have hN2:=HC.out.2.2.2.2.2.2.1;rw[dX e1 ht hA] at hN1;rw[dX e1 ht hB] at hN2;have hcs:=HF.out.2.2.2.1 _ (List.getElem_mem ht);have hok:=HC.out.2.1;have hsA:=HC.out.2.2.1 _ (List.getElem_mem hA);have hsB:=HC.out.2.2.2.1 _ (List.getElem_mem hB);have hm3:=HC.out.2.2.2.2.1;have hk:=HC.out.2.2.2.2.2.2.2;have HIN1:Hid (∀ w (X Y:List PT),PD K' w1 w d b ts ps X Y->(hX:t<X.length)->SmP (m+j) X[t]->Calls Tryz.prog 37 #[.pointer (some ⟨ps[t],0,none⟩),.slice pv k cv] w fun e w'=>(∃ r1 r2,e=.returned (.tuple #[.int .i64 r1,.int .i64 r2]))/\PD K' w1 w' d b ts ps (X.set t (insP ts[t] X[t] o.vals)) Y):=qAq (fun w X Y hx hX hs=>(hx.insD ht hp hX (HST.out w X Y hx).2 (fun q hq=>hq) hs hm3 hcs.2 hok.vals (by have:=hok.few;omega)).mono (fun e w' ⟨h1,h2⟩=>⟨⟨_,_,h1⟩,h2⟩));have HIN2:Hid (∀ w (X Y:List PT),PD K' w1 w d b ts ps X Y->(hY:t<Y.length)->SmP (m+j) Y[t]->Calls Tryz.prog 38 #[.pointer (some ⟨b,0,none⟩),.int .i64 (t:Int),.slice pv k cv] w fun e w'=>(∃ r1 r2,e=.returned (.tuple #[.int .i64 r1,.int .i64 r2]))/\PD K' w1 w' d b ts ps X (Y.set t (insP ts[t] Y[t] o.vals))):=qAq (fun w X Y hx hY hs=>(hx.insN ht hY (HST.out w X Y hx).2 (fun q hq=>hq) hs hm3 hcs.2 hcs.1 hok.vals (by have:=hok.few;omega)).mono (fun e w' ⟨h1,h2⟩=>⟨⟨_,_,h1⟩,h2⟩));have HDE1:Hid (∀ w (X Y:List PT),PD K' w1 w d b ts ps X Y->(hX:t<X.length)->SmP (m+j) X[t]->Calls Tryz.prog 39 #[.pointer (some ⟨ps[t],0,none⟩),.int .i64 o.id] w fun e w'=>(∃ r,e=.returned (.bool r))/\PD K' w1 w' d b ts ps (X.set t (delP X[t] o.id)) Y):=qAq (fun w X Y hx hX hs=>(hx.delD ht hp hX hok.id hs hm3 hcs.2).mono (fun e w' ⟨h1,h2⟩=>⟨⟨_,h1⟩,h2⟩));have HDE2:Hid (∀ w (X Y:List PT),PD K' w1 w d b ts ps X Y->(hY:t<Y.length)->SmP (m+j) Y[t]->Calls Tryz.prog 40 #[.pointer (some ⟨b,0,none⟩),.int .i64 (t:Int),.int .i64 o.id] w fun e w'=>(∃ r,e=.returned (.bool r))/\PD K' w1 w' d b ts ps X (Y.set t (delP Y[t] o.id))):=qAq (fun w X Y hx hY hs=>(hx.delN ht hY o.id hs hm3).mono (fun e w' ⟨h1,h2⟩=>⟨⟨_,h1⟩,h2⟩));have HSE1:Hid (∀ w (X Y:List PT) (u:T3),u.2.2.size<=maxLen->PD K' w1 w d b ts ps X Y->(hX:t<X.length)->SmP (m+j) X[t]->Calls Tryz.prog 41 #[.pointer (some ⟨ps[t],0,none⟩),.int .i64 o.id,.string o.col,.agg #[.int .i64 (u.1),.int .i64 (u.2.1),.string (u.2.2)]] w fun e w'=>(∃ r,e=.returned (.int .i64 r))/\PD K' w1 w' d b ts ps (X.set t (setP ts[t] X[t] o.id o.col u)) Y):=qAq (fun w X Y u hu hx hX hs=>(hx.setD ht hp hX hok.id o.col u hu hs hm3).mono (fun e w' ⟨h1,h2⟩=>⟨⟨_,h1⟩,h2⟩));have HSE2:Hid (∀ w (X Y:List PT) (u:T3),u.2.2.size<=maxLen->PD K' w1 w d b ts ps X Y->(hY:t<Y.length)->SmP (m+j) Y[t]->Calls Tryz.prog 42 #[.pointer (some ⟨b,0,none⟩),.int .i64 (t:Int),.int .i64 o.id,.string o.col,.agg #[.int .i64 (u.1),.int .i64 (u.2.1),.string (u.2.2)]] w fun e w'=>(∃ r,e=.returned (.int .i64 r))/\PD K' w1 w' d b ts ps X (Y.set t (setP ts[t] Y[t] o.id o.col u))):=qAq (fun w X Y u hu hx hY hs=>(hx.setN ht hY o.id o.col u hu hcs.1 hs hm3).mono (fun e w' ⟨h1,h2⟩=>⟨⟨_,h1⟩,h2⟩));have HSM:=qAq (qBq hA (qBq hB (qBq hsA hsB)));have HVS:=qAq hok.vals;obtain⟨pt,hpt⟩:∃ q,ps[t]=q:=⟨_,rfl⟩;simp only[hpt] at HT HIN1 HDE1 HSE1;have hti:¬ (t:Int)<0:=(by omega);have HN:=qAq (qBq hN1 (qBq hN2 hk));clear htab e1 e2 e3 hsz hnm hN1 hN2 hcs hok hsA hsB hm3 hk hpt;refine Par.wp_region_par 13 [.pointer (some ⟨d,0,none⟩),.pointer (some ⟨V,1,none⟩),.string o.tbl,.pointer (some ⟨pt,0,none⟩),.pointer (some ⟨b,0,none⟩),.pointer (some ⟨b,0,none⟩),.pointer (some ⟨b,0,none⟩),i0.sv,.pointer (some ⟨V,1,none⟩),.string o.tbl,.int .i64 (t:Int),.pointer (some ⟨pt,0,none⟩),.int .i64 (t:Int)] (fun w=>Below w1.heap.size w1 w) ?A2 ?hm2 ?hB2 ?hA2 ((aF w1)) ?hop2 ?hT2
  case hm2=>kernel_rfl
  case hB2=>kernel_rfl
  case hA2 =>
   simp only[Par.putA,Par.dstAt,Act.put,qDq,qEq,qFq,qLq,qGq,qHq,qIq,qJq,qKq];rfl
  case hop2 =>
   simp only[qMq,List.take_zero,Par.GiveAll,and_true];and_intros<;>intro w' hR<;>have HR:=qAq hR
   rotate_left;have zl:=aC (HBX.out w' hR).2.1;rotate_left;have z1:=aA (HBX.out w' hR).2.1 1;rotate_left
   ·clear hR;simp only[Par.Gives];go_simp;exact (HT.out w' HR.out).mono (fun e w'' ⟨he,hb⟩=>⟨he,hb▸HR.out⟩)
   rotate_left;have zl:=aC (HBX.out w' hR).1;rotate_left;have zl:=aC (HBX.out w' hR).1;rotate_left;have z1:=aA (HBX.out w' hR).1 0;rotate_left;have zl:=aC (HBX.out w' hR).2.1;rotate_left;have z1:=aA (HBX.out w' hR).2.1 1;rotate_left
   ·clear hR;simp only[Par.Gives];go_simp;exact ((HBX.out w' HR.out).2.2).mono (fun e w'' ⟨he,hb⟩=>⟨he,hb▸HR.out⟩)
   rotate_left 2
   all_goals(clear hR;simp only[Par.Gives];go_simp;all_goals exact HR.out)
  intro w' hR;simp only[qNq,List.drop_nil];have HP2:=qAq (HC.out.1.later hR);have v2:=(HBX.out w' hR).2.1;have z0:=aA v2 0;have z2:=aA v2 2;have zc3:=aA v2 3;have z4:=aA v2 4;have zl:=aC v2;clear v2 hR;obtain⟨w2,rfl⟩:∃ x,x=w':=⟨_,rfl⟩;by_cases d1:o.dO=1
  ·rw[d1] at z0;have hin:=HIN1.out w2 A B HP2.out HSM.out.1 HSM.out.2.2.1;obtain⟨hN1,hN2,_⟩:=HN.out;rw[if_pos d1] at hN1 hN2;subst hN1 hN2;clear d1
   go_wp2_with (first
    | (go_at_call 37;(with_reducible refine hin.mono ?_);rintro e w3 ⟨⟨r1,r2,rfl⟩,hP3⟩;have hin2:=HIN2.out w3 _ B hP3 HSM.out.2.1 HSM.out.2.2.2;have v3:=(HST.out w3 _ _ hP3).1;have y4:=aA v3 4;have yl:=aC v3;clear hin z0 z2 zc3 z4 zl v3 hP3)
    | (go_at_call 38;(with_reducible refine hin2.mono ?_);rintro e w4 ⟨⟨r3,r4,rfl⟩,hP4⟩;have HP4:=qAq hP4;clear hin2 y4 yl hP4))
   go_roundg (n-j)
   case measure=>omega
   exact⟨j+1,rfl,by omega,by omega,by rw[HAB.out.1,HAB.out.2];exact HBK.out _ _ _ HP4.out⟩
  have b1:(o.dO==1)=false:=beq_eq_false_iff_ne.2 d1;by_cases d2:o.dO=2
  ·rw[d2] at z0;have hin:=HDE1.out w2 A B HP2.out HSM.out.1 HSM.out.2.2.1;obtain⟨hN1,hN2,_⟩:=HN.out;rw[if_neg d1,if_pos d2] at hN1 hN2;subst hN1 hN2;clear d1 d2 b1
   go_wp2_with (first
    | (go_at_call 39;(with_reducible refine hin.mono ?_);rintro e w3 ⟨⟨r1,rfl⟩,hP3⟩;have hin2:=HDE2.out w3 _ B hP3 HSM.out.2.1 HSM.out.2.2.2;have v3:=(HST.out w3 _ _ hP3).1;have y4:=aA v3 2;have yl:=aC v3;clear hin z0 z2 zc3 z4 zl v3 hP3)
    | (go_at_call 40;(with_reducible refine hin2.mono ?_);rintro e w4 ⟨⟨r3,rfl⟩,hP4⟩;have HP4:=qAq hP4;clear hin2 y4 yl hP4))
   go_roundg (n-j)
   case measure=>omega
   exact⟨j+1,rfl,by omega,by omega,by rw[HAB.out.1,HAB.out.2];exact HBK.out _ _ _ HP4.out⟩
  have b2:(o.dO==2)=false:=beq_eq_false_iff_ne.2 d2;by_cases dk:k=1
  ·subst dk;have hk1:o.vals.length=1:=HN.out.2.2;obtain⟨u,hu⟩:∃ u,o.vals.getD 0 z3=u:=⟨_,rfl⟩;have hu0:o.vals[0]'(by omega)=u:=(by rw[<- hu,List.getD_eq_getElem?_getD,List.getElem?_eq_getElem (by omega)];rfl);obtain⟨vb,vo,rfl,qq1,qq2⟩:=InV.val (HST.out w2 A B HP2.out).2 (j:=0) (by omega);clear qq2 qq1
   have HU:Hid (∀ (w:World) (X Y:List PT),PD K' w1 w d b ts ps X Y->w.cell? ⟨vb,vo,none⟩=some (.int .i64 u.1)/\w.cell? ⟨vb,vo+1,none⟩=some (.int .i64 u.2.1)/\w.cell? ⟨vb,vo+2,none⟩=some (.string u.2.2)/\vb<w.heap.size):=qAq (fun w X Y hx=>by
    obtain⟨b',o',e,q1,q2,q3,q4⟩:=InV.val (HST.out w X Y hx).2 (j:=0) (by omega);cases e;rw[hu0] at q2 q3 q4;exact⟨q2,q3,q4,q1⟩)
   have hus:u.2.2.size<=maxLen:=(by rw[<- hu0];exact HVS.out _ (List.getElem_mem _));have HUS:=qAq hus;have hin:=HSE1.out w2 A B u hus HP2.out HSM.out.1 HSM.out.2.2.1;obtain⟨hN1,hN2,_⟩:=HN.out;rw[if_neg d1,if_neg d2,if_pos hk1,hu] at hN1 hN2;subst hN1 hN2;have hk0:(0:Int)<1:=(by decide);clear d1 d2 hk1 hu hu0 hus hin;go_upto_region 13 with fail;clear z0 z2 zc3 z4 zl;refine Par.wp_region_par 9 [.pointer (some ⟨pt,0,none⟩),.pointer (some ⟨V,2,none⟩),.int .i64 o.id,.pointer (some ⟨V,3,none⟩),.string o.col,.pointer (some ⟨V,4,none⟩),.slice (some ⟨vb,vo,none⟩) 1 cv,.pointer (some ⟨vb,vo,none⟩),.agg #[.int .i64 (u.1),.int .i64 (u.2.1),.string (u.2.2)]] (fun w=>Below w2.heap.size w2 w) ?A3 ?hm3 ?hB3 ?hA3 ((aF w2)) ?hop3 ?hT3
   case hm3=>kernel_rfl
   case hB3=>kernel_rfl
   case hA3 =>
    simp only[Par.putA,Par.dstAt,Act.put,qDq,qEq,qFq,qLq,qGq,qHq,qIq,qJq,qKq];rfl
   case hop3 =>
    simp only[qMq,List.take_zero,Par.GiveAll,and_true];and_intros<;>intro w' hR<;>have HR:=qAq hR
    rotate_left;have zl:=aC (HST.out w' _ _ (HP2.out.later hR)).1;rotate_left;have z1:=aA (HST.out w' _ _ (HP2.out.later hR)).1 2;rotate_left;have zl:=aC (HST.out w' _ _ (HP2.out.later hR)).1;rotate_left;have z1:=aA (HST.out w' _ _ (HP2.out.later hR)).1 3;rotate_left;have zl:=aC (HST.out w' _ _ (HP2.out.later hR)).1;rotate_left;have z1:=aA (HST.out w' _ _ (HP2.out.later hR)).1 4;rotate_left 2;have z1:=(HU.out w' _ _ (HP2.out.later hR)).1;have z2:=(HU.out w' _ _ (HP2.out.later hR)).2.1;have z3':=(HU.out w' _ _ (HP2.out.later hR)).2.2.1;rotate_left
    all_goals(clear hR;simp only[Par.Gives];go_simp;all_goals exact HR.out)
   intro w' hR;simp only[qNq,List.drop_zero];have hin:=HSE1.out w' A B u HUS.out (HP2.out.later hR) HSM.out.1 HSM.out.2.2.1;clear hR;go_upto_region 14 with (go_at_call 41;(with_reducible refine hin.mono ?_);rintro e w3 ⟨⟨r1,rfl⟩,hP3⟩;have HP3:=qAq hP3;clear hin hP3);refine Par.wp_region_par 10 [.pointer (some ⟨b,0,none⟩),.int .i64 (t:Int),.pointer (some ⟨V,2,none⟩),.int .i64 o.id,.pointer (some ⟨V,3,none⟩),.string o.col,.pointer (some ⟨V,4,none⟩),.slice (some ⟨vb,vo,none⟩) 1 cv,.pointer (some ⟨vb,vo,none⟩),.agg #[.int .i64 (u.1),.int .i64 (u.2.1),.string (u.2.2)]] (fun w=>Below w3.heap.size w3 w) ?A4 ?hm4 ?hB4 ?hA4 ((aF w3)) ?hop4 ?hT4
   case hm4=>kernel_rfl
   case hB4=>kernel_rfl
   case hA4 =>
    simp only[Par.putA,Par.dstAt,Act.put,qDq,qEq,qFq,qLq,qGq,qHq,qIq,qJq,qKq];rfl
   case hop4 =>
    simp only[qMq,List.take_zero,Par.GiveAll,and_true];and_intros<;>intro w' hR<;>have HR:=qAq hR
    rotate_left 2;have zl:=aC (HST.out w' _ _ (HP3.out.later hR)).1;rotate_left;have z1:=aA (HST.out w' _ _ (HP3.out.later hR)).1 2;rotate_left;have zl:=aC (HST.out w' _ _ (HP3.out.later hR)).1;rotate_left;have z1:=aA (HST.out w' _ _ (HP3.out.later hR)).1 3;rotate_left;have zl:=aC (HST.out w' _ _ (HP3.out.later hR)).1;rotate_left;have z1:=aA (HST.out w' _ _ (HP3.out.later hR)).1 4;rotate_left 2;have z1:=(HU.out w' _ _ (HP3.out.later hR)).1;have z2:=(HU.out w' _ _ (HP3.out.later hR)).2.1;have z3':=(HU.out w' _ _ (HP3.out.later hR)).2.2.1;rotate_left
    all_goals(clear hR;simp only[Par.Gives];go_simp;all_goals exact HR.out)
   intro w' hR;simp only[qNq,List.drop_zero];have hin2:=HSE2.out w' _ B u HUS.out (HP3.out.later hR) HSM.out.2.1 HSM.out.2.2.2;clear hR;go_wp2_with (go_at_call 42;(with_reducible refine hin2.mono ?_);rintro e w4 ⟨⟨r2,rfl⟩,hP4⟩;have HP4:=qAq hP4;clear hin2 hP4);go_roundg (n-j)
   case measure=>omega
   exact⟨j+1,rfl,by omega,by omega,by rw[HAB.out.1,HAB.out.2];exact HBK.out _ _ _ HP4.out⟩
  have b3:((k:Int)==1)=false:=beq_eq_false_iff_ne.2 (by omega);obtain⟨hN1,hN2,hk⟩:=HN.out;rw[if_neg d1,if_neg d2,if_neg (by omega)] at hN1 hN2;subst hN1 hN2;have HPe:=qAq (HBK.out _ _ _ HP2.out);clear d1 d2 dk hk;go_wp2_with fail;go_roundg (n-j)
  case measure=>omega
  exact⟨j+1,rfl,by omega,by omega,by rw[HAB.out.1,HAB.out.2];exact HPe.out⟩
 obtain rfl:j=n:=(by omega);have e1:ops.take j=ops:=(by rw[List.take_of_length_le (by rw[HF.out.2.2.2.2.2.2.2.2];exact Nat.le_refl _)]);rw[e1] at hPD;have HPD:=qAq hPD;clear hPD e1;go_wp2_with fail
 go_end0
 exact⟨rfl,HPD.out⟩
abbrev sS:ByteArray:=⟨#[115]⟩
abbrev cO1:OpX:=⟨1,sShop,0,e0,[(1,1,e0),(2,0,bx),(2,0,sN),(0,0,e0)]⟩
abbrev cO2:OpX:=⟨1,sShop,0,e0,[(1,2,e0),(2,0,bx),(2,0,sS),(0,0,e0)]⟩
theorem aIg:checkF (pre 4) (Lz.map (·.2))=(0,e0,0,e0):=by kernel_rfl
theorem aIh:checkF (pre 4) ((fillP (pre 4) Lz [cO1,cO2]).map (·.2))=(10,sShop,1,sZone):=by kernel_rfl
theorem aIi:∀ o∈[cO1,cO2],OpOk o:=fun o ho=>by
 have h:o=cO1∨o=cO2:=(by simpa using ho);rcases h with rfl|rfl
 ·exact cM (by decide) (by decide) (by decide) (by decide)
 ·exact cM (by decide) (by decide) (by decide) (by decide)
abbrev cV (i:Int) (s:ByteArray):Array Value:=#[.int .i64 1,.int .i64 i,.string e0,.int .i64 2,.int .i64 0,.string bx,.int .i64 2,.int .i64 0,.string s,.int .i64 0,.int .i64 0,.string e0]
abbrev cOps (g1 k1 g2 k2:Nat):Array Value:=#[.int .i64 1,.string sShop,.int .i64 0,.string e0,.slice (some ⟨g1,0,none⟩) 4 k1,.int .i64 1,.string sShop,.int .i64 0,.string e0,.slice (some ⟨g2,0,none⟩) 4 k2]
section
variable {w w1 w2:World}
theorem aDZ (i:Int) (s:ByteArray) (w1:World):Calls Tryz.prog 14 #[.string sShop,.slice (some ⟨w1.heap.size,0,none⟩) 4 4] (w1.alloc (.cells (cV i s) 32)) fun e w'=>∃ g cap,e=.returned (putV sShop (.slice (some ⟨g,0,none⟩) 4 cap))/\HRow w' w1.heap.size 32 3 (.slice (some ⟨g,0,none⟩) 4 cap) 4 (cells3 [(1,i,e0),(2,0,bx),(2,0,s),(0,0,e0)])/\Below w1.heap.size w1 w':=by
 have k:=heap_alloc_new w1 (.cells (cV i s) 32);have b:=aD w1 (.cells (cV i s) 32);have hr:HRow (w1.alloc (.cells (cV i s) 32)) w1.heap.size 32 3 (.slice (some ⟨w1.heap.size,0,none⟩) 4 4) 4 (cells3 [(1,i,e0),(2,0,bx),(2,0,s),(0,0,e0)]):=HRow.lit k rfl rfl (Nat.le_refl _) (by unfold maxLen;decide);refine (kM sShop (InV.of_row hr rfl) (by simp) (by simp)).mono ?_;rintro e w' ⟨g,cap,rfl,hr',hb'⟩;exact⟨g,cap,rfl,hr'.mono b.size,aB b hb'⟩
end
theorem qB (a c d:Int) (t u:ByteArray) (w:World):(Instr.field 39 (.agg #[.int .i64 a,.int .i64 c,.string t,.int .i64 d,.string u]) 0).run Tryz.prog w=.ok (.int .i64 a) w:=by kernel_rfl
theorem jN {K:Nat->Prop} {W0 w0:World} {d b:Nat} {ts:List T} {ps:List Nat} {L1 L2:List PT} {p:Option Addr} {cap:Nat} {ops:List OpX} {base m:Nat} (h:PD K W0 w0 d b ts ps L1 L2) (ho:OpsO W0 base (.slice p ops.length cap) ops) (hK:∀ q,base<=q->q<W0.heap.size->K q) (hi:InvQ ts) (hfew:AllFew ts) (hsz:Short ts) (hcs:∀ t∈ts,0<t.cols.length/\t.cols.length<=1000)
  (h1:∀ x∈L1,SmP m x) (h2:∀ x∈L2,SmP m x) (hm:m+ops.length<=590) (hops:∀ o∈ops,OpOk o) :
  Calls Tryz.prog 17 #[.pointer (some ⟨d,0,none⟩),.pointer (some ⟨b,0,none⟩),.slice p ops.length cap] w0 fun e w'=>e=.returned (.tuple #[])/\PD K W0 w' d b ts ps (fillP ts L1 ops) (fillP ts L2 ops):=by
 refine aDY h (fun j hj=>?_) hi hfew hsz hcs h1 h2 hm hops;obtain⟨g,cap',vv,e,hr⟩:=uK ho hK hj;cases e;refine⟨g,0,vv,rfl,fun w hq=>?_⟩;obtain⟨⟨c0,c1,c2,c3,c4,gl⟩,_,hv⟩:=hr w hq;rw[Nat.zero_add];exact⟨⟨c0,c1,c2,c3,c4,gl⟩,hv⟩
theorem cY (W:World):Calls Tryz.prog 12 #[] W fun e w'=>e=.returned (.bool true)/\Below W.heap.size W w':=by
 have hstar:=cP W;go_enter Tryz.func12,Tryz.ntmps12;go_upto_region 2 with (go_at_call 13;(with_reducible refine hstar.mono ?_);rintro e w1 ⟨d,b,ps,rfl,hP⟩;clear hstar)
 obtain⟨p0,p1,p2,p3,rfl⟩:∃ p0 p1 p2 p3,ps=[p0,p1,p2,p3]:=by
  have:=hP.len.1
  match ps,this with
  | [a,b,c,d],_=>exact⟨a,b,c,d,rfl⟩
 have ht0:Calls Tryz.prog 29 #[.pointer (some ⟨d,0,none⟩),.string sShop] w1 fun e w'=>e=.returned (Value.pointer (some ⟨p1,0,none⟩))/\w'=w1:=hP.table (j:=1) (by decide) (aO _ (List.getElem_mem _)) (by decide:1<4)
 have hck:=hP.check bE cD (by decide);rw[aIg] at hck;have HP1:=qAq hP;clear hP;go_upto_region 4 with (go_at_call 29;(with_reducible refine ht0.mono ?_);rintro e w2 ⟨rfl,hw⟩;subst w2;clear ht0);go_upto_region 5 with (go_at_call 18;(with_reducible refine hck.mono ?_);rintro e w2 ⟨rfl,hb2⟩;have HP2:=qAq (HP1.out.later hb2);clear hck hb2 HP1);have bA:=aD w2 (.cells zF 39);have kA:=heap_alloc_new w2 (.cells zF 39);obtain⟨wA,hwA⟩:∃ y,w2.alloc (.cells zF 39)=y:=⟨_,rfl⟩;rw[hwA] at bA kA;have HA:=qAq (qBq bA (qBq kA hwA))
 try rw[hwA]
 clear bA kA hwA;have hn1:=aU 1 wA
 go_upto_region 6 with (first
  | (go_at_call 15;(with_reducible refine hn1.mono ?_);rintro e w3 ⟨rfl,hb3⟩;have B3:=qAq hb3;have ht1:=aX bx w3;clear hn1 hb3)
  | (go_at_call 16;(with_reducible refine ht1.mono ?_);rintro e w4 ⟨rfl,hb4⟩;have B4:=qAq (aB B3.out hb4);have ht2:=aX sN w4;clear ht1 hb4)
  | (go_at_call 16;(with_reducible refine ht2.mono ?_);rintro e w5 ⟨rfl,hb5⟩;have B5:=qAq (aB B4.out hb5);have hp1:=aDZ 1 sN w5;clear ht2 hb5)
  | (go_at_call 14;(with_reducible refine hp1.mono ?_);rintro e w7 ⟨g1,k1,rfl,hr7,hb7⟩;have B7:=qAq (qBq (aB B5.out hb7) (hr7.mono B5.out.size));have hn2:=aU 2 w7;clear hp1 hr7 hb7)
  | (go_at_call 15;(with_reducible refine hn2.mono ?_);rintro e w8 ⟨rfl,hb8⟩;have B8:=qAq (qBq (aB B7.out.1 hb8) (B7.out.2.later hb8));have ht3:=aX bx w8;clear hn2 hb8)
  | (go_at_call 16;(with_reducible refine ht3.mono ?_);rintro e w9 ⟨rfl,hb9⟩;have B9:=qAq (qBq (aB B8.out.1 hb9) (B8.out.2.later hb9));have ht4:=aX sS w9;clear ht3 hb9)
  | (go_at_call 16;(with_reducible refine ht4.mono ?_);rintro e w10 ⟨rfl,hb10⟩;have B10:=qAq (qBq (aB B9.out.1 hb10) (B9.out.2.later hb10));have hp2:=aDZ 2 sS w10;clear ht4 hb10)
  | (go_at_call 14;(with_reducible refine hp2.mono ?_);rintro e w12 ⟨g2,k2,rfl,hr12,hb12⟩;have b13:=aD w12 (.cells (cOps g1 k1 g2 k2) 29);have k13:=heap_alloc_new w12 (.cells (cOps g1 k1 g2 k2) 29);have hbA12:=aB B10.out.1 hb12;have hb2_12:=aB HA.out.1 hbA12;have hops:OpsO (w12.alloc (.cells (cOps g1 k1 g2 k2) 29)) wA.heap.size (.slice (some ⟨w12.heap.size,0,none⟩) 2 2) [cO1,cO2]:=fJ (v1:=.slice (some ⟨g1,0,none⟩) 4 k1) (v2:=.slice (some ⟨g2,0,none⟩) 4 k2) k13 rfl hbA12.size ((B10.out.2.later hb12).later b13) ((hr12.mono B10.out.1.size).later b13);have hb13:=aB hb2_12 b13;have hP13:=HP2.out.with hb13;have hfill:Calls Tryz.prog 17 #[.pointer (some ⟨d,0,none⟩),.pointer (some ⟨b,0,none⟩),.slice (some ⟨w12.heap.size,0,none⟩) 2 2] _ _:=jN (ops:=[cO1,cO2]) hP13 hops (fun q h1 h2=>.inr ⟨Nat.le_trans HA.out.1.size h1,h2⟩) (cO 4 (by decide)) (bQ 4) aO cL cD cD (by decide) aIi;have H13:=qAq (qBq hb13 (aE (aB hbA12 b13) HA.out.2.1));clear b13 k13 hbA12 hb2_12 hops hb13 hP13 hp2 hr12 hb12)
  | (go_at_call 17;(with_reducible refine hfill.mono ?_);rintro e w14 ⟨rfl,hP14⟩;have HP14:=qAq hP14;clear hfill hP14))
 have hF14:=(HP14.out.still (.inr ⟨Nat.le_refl _,aC H13.out.2⟩)).trans H13.out.2;have hPB:=(HP2.out.later H13.out.1).back HP14.out (fun q hq=>.inl hq);have hsm:∀ x∈fillP (pre 4) Lz [cO1,cO2],SmP 2 x:=(fun x hx=>dY cD x hx);have hck:=hPB.check bE hsm (by decide);rw[aIh] at hck;have HSM:=qAq hsm;have HPB:=qAq hPB;have HF14:=qAq hF14;clear hF14 hPB hsm;go_upto_region 7 with (go_at_call 18;(with_reducible refine hck.mono ?_);rintro e w15 ⟨rfl,hb15⟩;have H15:=qAq hb15;clear hck hb15);have b16:=aD w15 (.cells #[.int .i64 10,.int .i64 0,.string sShop,.int .i64 1,.string sZone] 39);have k16:=heap_alloc_new w15 (.cells #[.int .i64 10,.int .i64 0,.string sShop,.int .i64 1,.string sZone] 39);obtain⟨w16,hw16⟩:∃ y,w15.alloc (.cells #[.int .i64 10,.int .i64 0,.string sShop,.int .i64 1,.string sZone] 39)=y:=⟨_,rfl⟩;rw[hw16] at b16 k16
 try rw[hw16]
 obtain⟨F1,hF1⟩:∃ x,w2.heap.size=x:=⟨_,rfl⟩;obtain⟨F2,hF2⟩:∃ x,w15.heap.size=x:=⟨_,rfl⟩;have kF:=aE (aB H15.out b16) HF14.out;rw[hF1] at kF;rw[hF2] at k16
 try rw[hF1]
 try rw[hF2]
 have H16:=qAq (qBq (aB H15.out b16) (qBq kF k16));have hbeg:=lJ w16;have hfd:=(fun w=>qB 10 0 1 sShop sZone w);clear b16 k16 kF hw16 hF1 hF2
 go_wp2_with (first
  | (go_at_call 31;(with_reducible refine hbeg.mono ?_);rintro e w17 ⟨rfl,hb17⟩;have c0:=aA (aE hb17 H16.out.2.1) 0;have cl:=aC (aE hb17 H16.out.2.1);have d0:=aA (aE hb17 H16.out.2.2) 0;have d2:=aA (aE hb17 H16.out.2.2) 2;have d3:=aA (aE hb17 H16.out.2.2) 3;have d4:=aA (aE hb17 H16.out.2.2) 4;have dl:=aC (aE hb17 H16.out.2.2);have hP17:=HPB.out.later (aB H16.out.1 hb17);have hnk:=hP17.ncheck bE fS (by decide) HSM.out (by decide);rw[aIh] at hnk;have hnk:Calls Tryz.prog 20 #[.pointer (some ⟨b,0,none⟩)] w17 fun e w'=>e=.returned (.agg #[.int .i64 10,.int .i64 0,.string sShop,.int .i64 1,.string sZone])/\Below w17.heap.size w17 w':=hnk;have H17:=qAq (hP17.bel (Below.refl _ _) (fun q hq=>hq));clear hbeg hb17 hP17)
  | (go_at_call 20;(with_reducible refine hnk.mono ?_);rintro e w18 ⟨rfl,hb18⟩;have H18:=qAq (aB H17.out hb18);clear hnk hb18))
 go_ret;exact⟨rfl,H18.out⟩
