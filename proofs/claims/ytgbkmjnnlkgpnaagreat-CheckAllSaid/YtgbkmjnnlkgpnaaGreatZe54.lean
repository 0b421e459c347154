import Derived.Test.YtgbkmjnnlkgpnaaGreatZe53
import Derived.Test.YtgbkmjnnlkgpnaaGreatZe46
import Derived.Test.YtgbkmjnnlkgpnaaGreatZe26
import Derived.Test.YtgbkmjnnlkgpnaaGreatZe44
set_option maxHeartbeats 8000000
set_option maxRecDepth 100000
namespace Go.Proofs.YtgbkmjnnlkgpnaaGreat
open Go Go.RowKit Go.Proofs Co Co.S
section
variable {K:Nat->Prop} {W0 w:World} {d b m:Nat} {ts:List T} {ps:List Nat} {L1 L2:List PT}
theorem PD.check (h:PD K W0 w d b ts ps L1 L2) (hok:AllOk ts) (hm:∀ x∈L1,SmP m x) (hm3:m<=1000) :
  Calls Tryz.prog 24 #[.pointer (some ⟨d,0,none⟩)] w fun e w'=>e=.returned (fP (bF ts (L1.map (·.2))).1 0 (bF ts (L1.map (·.2))).2.1 (bF ts (L1.map (·.2))).2.2.1 (bF ts (L1.map (·.2))).2.2.2)/\Below w.heap.size w w':=by
 obtain⟨st,O,hD,_,rfl⟩:=h.dd;have e:(st.map (·.2)).map (·.2)=rowsOf st:=(by rw[List.map_map];rfl);rw[e];refine check_any hD hok (fun s hs=>?_)
 have:=hm _ (List.mem_map.2 ⟨s,hs,rfl⟩)
 unfold SmP at this;omega
theorem PD.ncheck (h:PD K W0 w d b ts ps L1 L2) (hok:AllOk ts) (hneg:∀ t∈ts,ixC t.cols e0<0) (h0t:0<ts.length) (hm:∀ x∈L2,SmP m x) (hm3:m<=1000) :
  Calls Tryz.prog 25 #[.pointer (some ⟨b,0,none⟩)] w fun e w'=>e=.returned (fP (bF ts (L2.map (·.2))).1 0 (bF ts (L2.map (·.2))).2.1 (bF ts (L2.map (·.2))).2.2.1 (bF ts (L2.map (·.2))).2.2.2)/\Below w.heap.size w w':=by
 obtain⟨tt,i,O,hD,rfl⟩:=h.dbn;have e:(tt.map dB).map (·.2)=iR tt:=(by rw[List.map_map];rfl);rw[e];refine zZ hD hok hneg h0t (fun y hy=>?_)
 have:=hm _ (List.mem_map.2 ⟨y,hy,rfl⟩)
 unfold SmP at this;have e2:(dB y).2=y.A:=rfl;rw[e2] at this;omega
end
def aFG (t:T) (x:ByteArray):Bool:=decide (0<=ixC t.cols x)
theorem tZ {t:T} {x:ByteArray} (h:aFG t x=true):rS t x:=by
 have h:=of_decide_eq_true h;rcases jL t.cols x with e|⟨j,hj,e⟩
 ·omega
 exact⟨j,e,hj⟩
def aDZ (t:T):Bool:=(decide (t.key=e0) || aFG t t.key)&&t.deps.all (fun d=>d.left.all (aFG t)&&aFG t d.right&&decide (d.left.length<=1000))&&decide (t.cols.length<=1000)&&decide (t.deps.length<=1000)
theorem aEa {t:T} (h:aDZ t=true):FormOk t:=by
 unfold aDZ at h;simp only[Bool.and_eq_true,Bool.or_eq_true,decide_eq_true_eq,List.all_eq_true] at h;obtain⟨⟨⟨h1,h2⟩,h3⟩,h4⟩:=h;exact⟨h1.imp id tZ,fun d hd=>⟨fun x hx=>tZ ((h2 d hd).1.1 x hx),tZ (h2 d hd).1.2,(h2 d hd).2⟩,h3,h4⟩
theorem aEb:((pre 4).all aDZ)=true:=by kernel_rfl
theorem aGO:((pre 4).all fun t=>(List.range t.cols.length).all fun c=>decide (ixC t.cols (cAt t c).nm=(c:Int)))=true:=by kernel_rfl
theorem aGP:((List.range 4).all fun j=>decide (ixT (pre 4) ((pre 4).getD j ⟨e0,[],e0,[]⟩).nm=(j:Int)))=true:=by kernel_rfl
theorem aFH:((pre 4).all fun t=>decide (ixC t.cols e0<0))=true:=by kernel_rfl
theorem qG:∀ t∈pre 4,ixC t.cols e0<0:=fun t ht=>of_decide_eq_true (List.all_eq_true.1 aFH t ht)
theorem dC:AllOk (pre 4) where
 inv:=eD 4 (by decide)
 few:=dH 4
 sh:=aR
 n:=by decide
 form:=fun t ht=>aEa (List.all_eq_true.1 aEb t ht)
 pos:=fun t ht=>(qA t ht).1
 ix:=fun t ht c hc=>by
  have:=List.all_eq_true.1 (List.all_eq_true.1 aGO t ht) c (List.mem_range.2 hc)
  rw[qE hc] at this;exact of_decide_eq_true this
 un:=fun j hj=>by
  have hj4:j<4:=hj
  have:=of_decide_eq_true (List.all_eq_true.1 aGP j (List.mem_range.2 hj4))
  rw[List.getD_eq_getElem?_getD,qQq hj,Option.getD_some] at this;rcases dZ (pre 4) (pre 4)[j].nm with ⟨e1,_,_⟩ | ⟨k,hk,e1,_,e3⟩
  ·omega
  ·obtain rfl:k=j:=(by omega);exact e3
theorem aU (n:Int) (W:World):Calls Tryz.prog 27 #[.int .i64 n] W fun e w'=>e=.returned (.agg #[Value.int .i64 (1),Value.int .i64 (n),Value.string (e0)])/\Below W.heap.size W w':=by
 have hb1:=aC W (.cells #[.int .i64 0,.int .i64 0,.string e0] 42);have k1:=qOq W (.cells #[.int .i64 0,.int .i64 0,.string e0] 42);obtain⟨w1,hw1⟩:∃ w1,W.alloc (.cells #[.int .i64 0,.int .i64 0,.string e0] 42)=w1:=⟨_,rfl⟩;obtain⟨B,hB⟩:∃ B,W.heap.size=B:=⟨_,rfl⟩;rw[hw1] at hb1 k1;rw[hB] at k1;have x0:=aA k1 0;have x1:=aA k1 1;have x2:=aA k1 2;have xf:=(fun i=>frozen_of_row w1 B i _ _ k1);have xl:=lt_of_heap k1;have HW:=qAq (qBq hw1 (qBq hB (qBq hb1 k1)));clear hw1 hB hb1 k1;go_enter Tryz.func27,Tryz.ntmps27;go_upto_region 1 with fail;rw[HW.out.1,HW.out.2.1];go_wp2_with fail;generalize hwz:((World.setCell _ _ _).setCell _ _).setCell _ _=wz;have h3:=uL HW.out.2.2.2 (.int .i64 1) (.int .i64 n) (.string e0);have hbz:=fJ HW.out.2.2.1 (Nat.le_of_eq HW.out.2.1) (.int .i64 1) (.int .i64 n) (.string e0);rw[hwz] at h3 hbz;have y0:=aA h3 0;have y1:=aA h3 1;have y2:=aA h3 2;refine bodyPost_ret (v:=(Value.agg #[Value.int .i64 (1),Value.int .i64 (n),Value.string (e0)])) (by simp[results,Tryz.results27,go_sem,y0,y1,y2]) rfl ?_;exact⟨rfl,hbz⟩
theorem bH (s:ByteArray) (W:World):Calls Tryz.prog 28 #[.string s] W fun e w'=>e=.returned (.agg #[Value.int .i64 (2),Value.int .i64 (0),Value.string (s)])/\Below W.heap.size W w':=by
 have hb1:=aC W (.cells #[.int .i64 0,.int .i64 0,.string e0] 42);have k1:=qOq W (.cells #[.int .i64 0,.int .i64 0,.string e0] 42);obtain⟨w1,hw1⟩:∃ w1,W.alloc (.cells #[.int .i64 0,.int .i64 0,.string e0] 42)=w1:=⟨_,rfl⟩;obtain⟨B,hB⟩:∃ B,W.heap.size=B:=⟨_,rfl⟩;rw[hw1] at hb1 k1;rw[hB] at k1;have x0:=aA k1 0;have x1:=aA k1 1;have x2:=aA k1 2;have xf:=(fun i=>frozen_of_row w1 B i _ _ k1);have xl:=lt_of_heap k1;have HW:=qAq (qBq hw1 (qBq hB (qBq hb1 k1)));clear hw1 hB hb1 k1;go_enter Tryz.func28,Tryz.ntmps28;go_upto_region 1 with fail;rw[HW.out.1,HW.out.2.1];go_wp2_with fail;generalize hwz:((World.setCell _ _ _).setCell _ _).setCell _ _=wz;have h3:=uL HW.out.2.2.2 (.int .i64 2) (.int .i64 0) (.string s);have hbz:=fJ HW.out.2.2.1 (Nat.le_of_eq HW.out.2.1) (.int .i64 2) (.int .i64 0) (.string s);rw[hwz] at h3 hbz;have y0:=aA h3 0;have y1:=aA h3 1;have y2:=aA h3 2;refine bodyPost_ret (v:=(Value.agg #[Value.int .i64 (2),Value.int .i64 (0),Value.string (s)])) (by simp[results,Tryz.results28,go_sem,y0,y1,y2]) rfl ?_;exact⟨rfl,hbz⟩abbrev oF:Array Value:=#[.int .i64 0,.string e0,.int .i64 0,.string e0,.slice none 0 0]
abbrev aFI (nm:ByteArray) (v:Value):Value:=.agg #[.int .i64 1,.string nm,.int .i64 0,.string e0,v]
theorem rZ {S:Nat->Prop} {v:Value} {vals:List T3} (nm:ByteArray) {W:World} (h:InV S W v vals) (h0:0<vals.length) (h1:vals.length<=1000) :
  Calls Tryz.prog 26 #[.string nm,v] W fun e w'=>∃ g cap,e=.returned (aFI nm (.slice (some ⟨g,0,none⟩) vals.length cap))/\HRow w' W.heap.size 42 3 (.slice (some ⟨g,0,none⟩) vals.length cap) vals.length (cells3 vals)/\Below W.heap.size W w':=by
 have hb1:=aC W (.cells oF 47);have k1:=qOq W (.cells oF 47);obtain⟨w1,hw1⟩:∃ w1,W.alloc (.cells oF 47)=w1:=⟨_,rfl⟩;obtain⟨B,hB⟩:∃ B,W.heap.size=B:=⟨_,rfl⟩;rw[hw1] at hb1 k1;rw[hB] at k1;obtain⟨g,cap,w2,hrun,hr,hb2⟩:=vB (h.later hb1) h1 h0;obtain⟨n,hn⟩:∃ n,vals.length=n:=⟨_,rfl⟩;rw[hn] at hrun hr;rw[hn];have k2:=aD hb2 k1;have x0:=aA k2 0;have x1:=aA k2 1;have x2:=aA k2 2;have x3:=aA k2 3;have x4:=aA k2 4;have xf:=(fun i=>frozen_of_row w2 B i _ _ k2);have xl:=lt_of_heap k2
 have hBg:B≠g:=by
  have h1:=(HRow.lt hr g rfl).1;have h2:=lt_of_heap k1;omega
 have hle:W.heap.size<=w1.heap.size:=hb1.size;obtain⟨p,c,rfl,_,_⟩:=h.slice;rw[hn] at hrun;have HW:=qAq (qBq hw1 (qBq hB (qBq k2 (qBq (aB hb1 hb2) (qBq (hr.mono hle) hBg)))));rw[hn];clear hw1 hB hb1 k1 hb2 hr k2 h h0 h1 hn hBg hle;go_enter Tryz.func26,Tryz.ntmps26;go_upto_region 1 with fail;rw[HW.out.1,HW.out.2.1];go_wp2_with (at_builtin;refine wpList_append_run rfl (.const (.slice none 0 0)) (.tmp 6) 45 rfl rfl rfl hrun ?_);generalize hwz:((((World.setCell _ _ _).setCell _ _).setCell _ _).setCell _ _).setCell _ _=wz;have h5:=zN HW.out.2.2.1 (.int .i64 1) (.string nm) (.int .i64 0) (.string e0) (.slice (some ⟨g,0,none⟩) n cap);have hg5:=dN w2 B (.int .i64 1) (.string nm) (.int .i64 0) (.string e0) (.slice (some ⟨g,0,none⟩) n cap);rw[hwz] at h5 hg5;have hbz:Below W.heap.size W wz:=below_grown HW.out.2.2.2.1 (Nat.le_refl _) hg5 (Nat.le_of_eq HW.out.2.1)
 have hrz:HRow wz W.heap.size 42 3 (.slice (some ⟨g,0,none⟩) n cap) n (cells3 vals):=HW.out.2.2.2.2.1.of (fun q hq=>by
  have hq:g=q:=(by simpa [Value.ownBlock] using hq);subst hq;exact hg5.block _ (HRow.lt HW.out.2.2.2.2.1 _ rfl).2 (fun e=>HW.out.2.2.2.2.2 (Option.some.inj e).symm))
 have y0:=aA h5 0;have y1:=aA h5 1;have y2:=aA h5 2;have y3:=aA h5 3;have y4:=aA h5 4;refine bodyPost_ret (v:=aFI nm (.slice (some ⟨g,0,none⟩) n cap)) (by simp[results,Tryz.results26,go_sem,y0,y1,y2,y3,y4]) rfl ?_;exact⟨g,cap,rfl,hrz,hbz⟩
abbrev sS:ByteArray:=⟨#[115]⟩
abbrev cO1:OpX:=⟨1,aW,0,e0,[(1,1,e0),(2,0,bx),(2,0,sN),(0,0,e0)]⟩
abbrev cO2:OpX:=⟨1,aW,0,e0,[(1,2,e0),(2,0,bx),(2,0,sS),(0,0,e0)]⟩
theorem aHJ:bF (pre 4) (Lz.map (·.2))=(0,e0,0,e0):=by kernel_rfl
theorem aHr:bF (pre 4) ((bR (pre 4) Lz [cO1,cO2]).map (·.2))=(10,aW,1,cK):=by kernel_rfl
theorem aHs:∀ o∈[cO1,cO2],OpOk o:=fun o ho=>by
 have h:o=cO1∨o=cO2:=(by simpa using ho);rcases h with rfl|rfl
 ·exact tT (by decide) (by decide) (by decide) (by decide)
 ·exact tT (by decide) (by decide) (by decide) (by decide)
abbrev cV (i:Int) (s:ByteArray):Array Value:=#[.int .i64 1,.int .i64 i,.string e0,.int .i64 2,.int .i64 0,.string bx,.int .i64 2,.int .i64 0,.string s,.int .i64 0,.int .i64 0,.string e0]
abbrev aGQ (g1 k1 g2 k2:Nat):Array Value:=#[.int .i64 1,.string aW,.int .i64 0,.string e0,.slice (some ⟨g1,0,none⟩) 4 k1,.int .i64 1,.string aW,.int .i64 0,.string e0,.slice (some ⟨g2,0,none⟩) 4 k2]
section
variable {w w1 w2:World}
theorem aEc (i:Int) (s:ByteArray) (w1:World):Calls Tryz.prog 26 #[.string aW,.slice (some ⟨w1.heap.size,0,none⟩) 4 4] (w1.alloc (.cells (cV i s) 42)) fun e w'=>∃ g cap,e=.returned (aFI aW (.slice (some ⟨g,0,none⟩) 4 cap))/\HRow w' w1.heap.size 42 3 (.slice (some ⟨g,0,none⟩) 4 cap) 4 (cells3 [(1,i,e0),(2,0,bx),(2,0,s),(0,0,e0)])/\Below w1.heap.size w1 w':=by
 have k:=qOq w1 (.cells (cV i s) 42);have b:=aC w1 (.cells (cV i s) 42);have hr:HRow (w1.alloc (.cells (cV i s) 42)) w1.heap.size 42 3 (.slice (some ⟨w1.heap.size,0,none⟩) 4 4) 4 (cells3 [(1,i,e0),(2,0,bx),(2,0,s),(0,0,e0)]):=HRow.lit k rfl rfl (Nat.le_refl _) (by unfold maxLen;decide);refine (rZ aW (InV.of_row hr rfl) (by simp) (by simp)).mono ?_;rintro e w' ⟨g,cap,rfl,hr',hb'⟩;exact⟨g,cap,rfl,hr'.mono b.size,aB b hb'⟩
end
theorem aCh (a c d:Int) (t u:ByteArray) (w:World):(Instr.field 33 (.agg #[.int .i64 a,.int .i64 c,.string t,.int .i64 d,.string u]) 0).run Tryz.prog w=.ok (.int .i64 a) w:=by kernel_rfl
theorem qH {K:Nat->Prop} {W0 w0:World} {d b:Nat} {ts:List T} {ps:List Nat} {L1 L2:List PT} {p:Option Addr} {cap:Nat} {ops:List OpX} {base m:Nat} (h:PD K W0 w0 d b ts ps L1 L2) (ho:OpsO W0 base (.slice p ops.length cap) ops) (hK:∀ q,base<=q->q<W0.heap.size->K q) (hi:InvQ ts) (hfew:bU ts) (hsz:Short ts) (hcs:∀ t∈ts,0<t.cols.length/\t.cols.length<=1000)
  (h1:∀ x∈L1,SmP m x) (h2:∀ x∈L2,SmP m x) (hm:m+ops.length<=390) (hops:∀ o∈ops,OpOk o) :
  Calls Tryz.prog 13 #[.pointer (some ⟨d,0,none⟩),.pointer (some ⟨b,0,none⟩),.slice p ops.length cap] w0 fun e w'=>e=.returned (.tuple #[])/\PD K W0 w' d b ts ps (bR ts L1 ops) (bR ts L2 ops):=by
 refine wJ h (fun j hj=>?_) hi hfew hsz hcs h1 h2 hm hops;obtain⟨g,cap',vv,e,hr⟩:=wI ho hK hj;cases e;refine⟨g,0,vv,rfl,fun w hq=>?_⟩;obtain⟨⟨c0,c1,c2,c3,c4,gl⟩,_,hv⟩:=hr w hq;rw[Nat.zero_add];exact⟨⟨c0,c1,c2,c3,c4,gl⟩,hv⟩
theorem iY (W:World):Calls Tryz.prog 23 #[] W fun e w'=>e=.returned (.bool true)/\Below W.heap.size W w':=by
 have hstar:=lV W;go_enter Tryz.func23,Tryz.ntmps23;go_upto_region 2 with (go_at_call 12;(with_reducible refine hstar.mono ?_);rintro e w1 ⟨d,b,ps,rfl,hP⟩;clear hstar)
 obtain⟨p0,p1,p2,p3,rfl⟩:∃ p0 p1 p2 p3,ps=[p0,p1,p2,p3]:=by
  have:=hP.len.1
  match ps,this with
  | [a,b,c,d],_=>exact⟨a,b,c,d,rfl⟩
 have ht0:Calls Tryz.prog 29 #[.pointer (some ⟨d,0,none⟩),.string aW] w1 fun e w'=>e=.returned (.pointer (some ⟨p1,0,none⟩))/\w'=w1:=hP.table (j:=1) (by decide) (aR _ (List.getElem_mem _)) (by decide:1<4)
 have hck:=hP.check dC iC (by decide);rw[aHJ] at hck;have HP1:=qAq hP;clear hP;go_upto_region 4 with (go_at_call 29;(with_reducible refine ht0.mono ?_);rintro e w2 ⟨rfl,hw⟩;subst w2;clear ht0);go_upto_region 5 with (go_at_call 24;(with_reducible refine hck.mono ?_);rintro e w2 ⟨rfl,hb2⟩;have HP2:=qAq (HP1.out.later hb2);clear hck hb2 HP1);have bA:=aC w2 (.cells zF 33);have kA:=qOq w2 (.cells zF 33);obtain⟨wA,hwA⟩:∃ y,w2.alloc (.cells zF 33)=y:=⟨_,rfl⟩;rw[hwA] at bA kA;have HA:=qAq (qBq bA (qBq kA hwA))
 try rw[hwA]
 clear bA kA hwA;have hn1:=aU 1 wA
 go_upto_region 6 with (first
  | (go_at_call 27;(with_reducible refine hn1.mono ?_);rintro e w3 ⟨rfl,hb3⟩;have B3:=qAq hb3;have ht1:=bH bx w3;clear hn1 hb3)
  | (go_at_call 28;(with_reducible refine ht1.mono ?_);rintro e w4 ⟨rfl,hb4⟩;have B4:=qAq (aB B3.out hb4);have ht2:=bH sN w4;clear ht1 hb4)
  | (go_at_call 28;(with_reducible refine ht2.mono ?_);rintro e w5 ⟨rfl,hb5⟩;have B5:=qAq (aB B4.out hb5);have hp1:=aEc 1 sN w5;clear ht2 hb5)
  | (go_at_call 26;(with_reducible refine hp1.mono ?_);rintro e w7 ⟨g1,k1,rfl,hr7,hb7⟩;have B7:=qAq (qBq (aB B5.out hb7) (hr7.mono B5.out.size));have hn2:=aU 2 w7;clear hp1 hr7 hb7)
  | (go_at_call 27;(with_reducible refine hn2.mono ?_);rintro e w8 ⟨rfl,hb8⟩;have B8:=qAq (qBq (aB B7.out.1 hb8) (B7.out.2.later hb8));have ht3:=bH bx w8;clear hn2 hb8)
  | (go_at_call 28;(with_reducible refine ht3.mono ?_);rintro e w9 ⟨rfl,hb9⟩;have B9:=qAq (qBq (aB B8.out.1 hb9) (B8.out.2.later hb9));have ht4:=bH sS w9;clear ht3 hb9)
  | (go_at_call 28;(with_reducible refine ht4.mono ?_);rintro e w10 ⟨rfl,hb10⟩;have B10:=qAq (qBq (aB B9.out.1 hb10) (B9.out.2.later hb10));have hp2:=aEc 2 sS w10;clear ht4 hb10)
  | (go_at_call 26;(with_reducible refine hp2.mono ?_);rintro e w12 ⟨g2,k2,rfl,hr12,hb12⟩;have b13:=aC w12 (.cells (aGQ g1 k1 g2 k2) 47);have k13:=qOq w12 (.cells (aGQ g1 k1 g2 k2) 47);have hbA12:=aB B10.out.1 hb12;have hb2_12:=aB HA.out.1 hbA12;have hops:OpsO (w12.alloc (.cells (aGQ g1 k1 g2 k2) 47)) wA.heap.size (.slice (some ⟨w12.heap.size,0,none⟩) 2 2) [cO1,cO2]:=zP (v1:=.slice (some ⟨g1,0,none⟩) 4 k1) (v2:=.slice (some ⟨g2,0,none⟩) 4 k2) k13 rfl hbA12.size ((B10.out.2.later hb12).later b13) ((hr12.mono B10.out.1.size).later b13);have hb13:=aB hb2_12 b13;have hP13:=HP2.out.with hb13;have hfill:Calls Tryz.prog 13 #[.pointer (some ⟨d,0,none⟩),.pointer (some ⟨b,0,none⟩),.slice (some ⟨w12.heap.size,0,none⟩) 2 2] _ _:=qH (ops:=[cO1,cO2]) hP13 hops (fun q h1 h2=>.inr ⟨Nat.le_trans HA.out.1.size h1,h2⟩) (eD 4 (by decide)) (dH 4) aR qA iC iC (by decide) aHs;have H13:=qAq (qBq hb13 (aD (aB hbA12 b13) HA.out.2.1));clear b13 k13 hbA12 hb2_12 hops hb13 hP13 hp2 hr12 hb12)
  | (go_at_call 13;(with_reducible refine hfill.mono ?_);rintro e w14 ⟨rfl,hP14⟩;have HP14:=qAq hP14;clear hfill hP14))
 have hF14:=(HP14.out.still (.inr ⟨Nat.le_refl _,lt_of_heap H13.out.2⟩)).trans H13.out.2;have hPB:=(HP2.out.later H13.out.1).back HP14.out (fun q hq=>.inl hq);have hsm:∀ x∈bR (pre 4) Lz [cO1,cO2],SmP 2 x:=(fun x hx=>fM iC x hx);have hck:=hPB.check dC hsm (by decide);rw[aHr] at hck;have HSM:=qAq hsm;have HPB:=qAq hPB;have HF14:=qAq hF14;clear hF14 hPB hsm;go_upto_region 7 with (go_at_call 24;(with_reducible refine hck.mono ?_);rintro e w15 ⟨rfl,hb15⟩;have H15:=qAq hb15;clear hck hb15);have b16:=aC w15 (.cells #[.int .i64 10,.int .i64 0,.string aW,.int .i64 1,.string cK] 33);have k16:=qOq w15 (.cells #[.int .i64 10,.int .i64 0,.string aW,.int .i64 1,.string cK] 33);obtain⟨w16,hw16⟩:∃ y,w15.alloc (.cells #[.int .i64 10,.int .i64 0,.string aW,.int .i64 1,.string cK] 33)=y:=⟨_,rfl⟩;rw[hw16] at b16 k16
 try rw[hw16]
 obtain⟨F1,hF1⟩:∃ x,w2.heap.size=x:=⟨_,rfl⟩;obtain⟨F2,hF2⟩:∃ x,w15.heap.size=x:=⟨_,rfl⟩;have kF:=aD (aB H15.out b16) HF14.out;rw[hF1] at kF;rw[hF2] at k16
 try rw[hF1]
 try rw[hF2]
 have H16:=qAq (qBq (aB H15.out b16) (qBq kF k16));have hbeg:=wM w16;have hfd:=(fun w=>aCh 10 0 1 aW cK w);clear b16 k16 kF hw16 hF1 hF2
 go_wp2_with (first
  | (go_at_call 30;(with_reducible refine hbeg.mono ?_);rintro e w17 ⟨rfl,hb17⟩;have c0:=aA (aD hb17 H16.out.2.1) 0;have cl:=lt_of_heap (aD hb17 H16.out.2.1);have d0:=aA (aD hb17 H16.out.2.2) 0;have d2:=aA (aD hb17 H16.out.2.2) 2;have d3:=aA (aD hb17 H16.out.2.2) 3;have d4:=aA (aD hb17 H16.out.2.2) 4;have dl:=lt_of_heap (aD hb17 H16.out.2.2);have hP17:=HPB.out.later (aB H16.out.1 hb17);have hnk:=hP17.ncheck dC qG (by decide) HSM.out (by decide);rw[aHr] at hnk;have hnk:Calls Tryz.prog 25 #[.pointer (some ⟨b,0,none⟩)] w17 fun e w'=>e=.returned (.agg #[.int .i64 10,.int .i64 0,.string aW,.int .i64 1,.string cK])/\Below w17.heap.size w17 w':=hnk;have H17:=qAq (hP17.bel (Below.refl _ _) (fun q hq=>hq));clear hbeg hb17 hP17)
  | (go_at_call 25;(with_reducible refine hnk.mono ?_);rintro e w18 ⟨rfl,hb18⟩;have H18:=qAq (aB H17.out hb18);clear hnk hb18))
 go_ret;exact⟨rfl,H18.out⟩
theorem aAa {ts:List T} {L:List PT} {l:List OpX} (i m:Nat):bR ts (bR ts L (l.take i)) ((l.drop i).take m)=bR ts L (l.take (i+m)):=by
 unfold bR;rw[<- List.foldl_append,<- List.take_add]
theorem aEd {p0:Option Addr} {c0:Nat} {L:List OpX} (W:World) (hL:aDC W p0 L) (hLm:L.length<=maxLen) (hid:∀ o∈L,F64 o.id) :
  Calls Tryz.prog 6 #[.slice p0 L.length c0] W fun e w'=>e=.returned (.bool true)/\Below W.heap.size W w':=by
 have hbeg:=iY W;obtain⟨n0,hn0⟩:∃ n,L.length=n:=⟨_,rfl⟩;have HA:=qAq (qBq hL (qBq hLm (qBq hid hn0)));rw[hn0];clear hL hLm hid hn0;go_enter Tryz.func6,Tryz.ntmps6;go_upto_region 4 with (go_at_call 23;(with_reducible refine hbeg.mono ?_);rintro e w4 ⟨rfl,hb2⟩;have H4:=qAq hb2;clear hbeg hb2);have hstar:=lV w4;go_upto_region 5 with (go_at_call 12;(with_reducible refine hstar.mono ?_);rintro e w5 ⟨d,b,ps,rfl,hP5⟩;have HP5:=qAq hP5;clear hstar hP5);have hb5:=HP5.out.bel (Below.refl _ _) (fun q hq=>hq);have hops:=aFm (W:=w5) (c:=c0) 60 (by decide) (zL HA.out.1 (aB H4.out hb5)) HA.out.2.1;rw[HA.out.2.2.2] at hops;have hops:Calls Tryz.prog 14 #[.slice p0 n0 c0,.int .i64 60] w5 _:=hops;clear hb5;go_upto_region 6 with (go_at_call 14;(with_reducible refine hops.mono ?_);rintro e w6 ⟨tv,rfl,ho,hb6⟩;have H6:=qAq (qBq ho hb6);clear hops ho hb6);obtain⟨ops,hops⟩:∃ x,(L.take 60).map eN=x:=⟨_,rfl⟩;have hok:∀ o∈ops,OpOk o:=(by rw[<- hops];exact aGL HA.out.2.2.1 60);have hlen:ops.length<=60:=(by rw[<- hops,List.length_map,List.length_take];omega);rw[hops] at H6
 obtain⟨ptv,ctv,rfl⟩:∃ p c,tv=.slice p ops.length c:=by
  obtain⟨sv,_,h3,_⟩:=H6.out.1;obtain⟨p,c,e,_,_⟩:=h3.isslice;exact⟨p,c,e⟩
 have hP6:=HP5.out.with H6.out.2;obtain⟨K,hK⟩:∃ K:Nat->Prop,(fun q=>q<w4.heap.size∨(w5.heap.size<=q/\q<w6.heap.size))=K:=⟨_,rfl⟩;rw[hK] at hP6;have hKb:∀ q,w5.heap.size<=q->q<w6.heap.size->K q:=(fun q h1 h2=>by rw[<- hK];exact .inr ⟨h1,h2⟩);have hKa:∀ q,q<w4.heap.size->K q:=(fun q h1=>by rw[<- hK];exact .inl h1);have HRD:Hid (∀ j (hj:j<ops.length),_):=qAq (fun j hj=>wI H6.out.1 hKb hj);have HFIN:Hid (∀ w X Y,PD K w6 w d b (pre 4) ps X Y->Below W.heap.size W w):=qAq (fun w X Y h=>aB H4.out (((HP5.out.later H6.out.2).back h hKa).bel (Below.refl _ _) (fun q hq=>hq)));obtain⟨n,hn⟩:∃ n,ops.length=n:=⟨_,rfl⟩;rw[hn] at hlen;have hni:(n:Int)<=60:=(by omega);rw[hn]
 have hcap:n<=ctv:=by
  obtain⟨sv,_,h3,_⟩:=H6.out.1;obtain⟨p,c,e,h4,_⟩:=h3.isslice;cases e;omega
 have HO:=qAq (qBq hok hn);have HP6:=qAq hP6;clear hok hP6 hKb hKa hK hops;go_wp2_with fail;go_loopg [7] (n+11) (fun gh jv w=>∃ (i:Nat),jv=.int .i64 (i:Int)/\i<=n+10/\n+11<=i+gh/\PD K w6 w d b (pre 4) ps (bR (pre 4) Lz (ops.take i)) (bR (pre 4) Lz (ops.take i)))
 case atStart=>exact⟨0,rfl,Nat.zero_le _,by omega,HP6.out⟩
 obtain⟨i,rfl,hi,hg,hP⟩:=hrel;have HP:=qAq hP;clear hP;by_cases hlt:i<n
 ·have hii:(i:Int)<(n:Int):=(by omega);obtain⟨m,hm⟩:∃ m,min n (i+10)=m:=⟨_,rfl⟩;have him:i<m:=(by omega);have hmn:m<=n:=(by omega);have hmi:(min (n:Int) ((i:Int)+10))=(m:Int):=(by omega);have hl':((ops.drop i).take 10).length=m-i:=by rw[List.length_take,List.length_drop,HO.out.2];omega
  obtain⟨g,rfl⟩:∃ g,ptv=some ⟨g,0,none⟩:=by
   obtain⟨g,cap,vv,e,_⟩:=HRD.out 0 (by rw[HO.out.2];omega);cases e;exact⟨g,rfl⟩
  have hs:∀ x∈bR (pre 4) Lz (ops.take i),SmP 60 x:=(fun x hx=>(fM iC x hx).mono (by rw[List.length_take,HO.out.2];omega));have hs2:∀ x∈bR (pre 4) Lz (ops.take (i+10)),SmP 60 x:=fun x hx=>(fM iC x hx).mono (by rw[List.length_take,HO.out.2];omega)
  have hfill:=wJ (p:=some ⟨g,i*5,none⟩) (cap:=ctv-i) (ops:=(ops.drop i).take 10) (m:=60) HP.out (fun j hj=>by
   have hjo:i+j<ops.length:=(by rw[hl'] at hj;rw[HO.out.2];omega);obtain⟨g',cap,vv,e,hr⟩:=HRD.out (i+j) hjo;cases e;refine⟨g,i*5,vv,rfl,fun w hq=>?_⟩;obtain⟨⟨c0,c1,c2,c3,c4,gl⟩,_,hv⟩:=hr w hq;have ee:((ops.drop i).take 10)[j]=ops[i+j]:=(by rw[List.getElem_take,List.getElem_drop]);have e5:(i+j)*5=i*5+j*5:=Nat.add_mul i j 5;rw[e5] at c0 c1 c2 c3 c4;rw[ee];exact⟨⟨c0,c1,c2,c3,c4,gl⟩,hv⟩) (eD 4 (by decide)) (dH 4) aR qA hs hs (by rw[hl'];omega) (fun o ho=>HO.out.1 o (List.mem_of_mem_drop (List.mem_of_mem_take ho)))
  rw[hl',aAa] at hfill;have HS2:=qAq hs2;clear hs hs2 hl';obtain⟨X,hX⟩:∃ X,bR (pre 4) Lz (ops.take (i+10))=X:=⟨_,rfl⟩;rw[hX] at hfill HS2;have HXE:=qAq hX;clear hX;go_upto_region 10 with (go_at_call 13;(with_reducible refine hfill.mono ?_);rintro e w7 ⟨rfl,hP7⟩;have HP7:=qAq hP7;clear hfill hP7);have hck:=HP7.out.check dC HS2.out (by decide);obtain⟨⟨a1,a2,a3,a4⟩,hcf⟩:∃ x,bF (pre 4) (X.map (·.2))=x:=⟨_,rfl⟩;rw[hcf] at hck;have HCF:=qAq hcf;clear hcf
  go_wp2_with (first
   | (go_at_call 24;(with_reducible refine hck.mono ?_);rintro e w8 ⟨rfl,hb8⟩;have HP8:=qAq (HP7.out.later hb8);have hnk:=HP8.out.ncheck dC qG (by decide) HS2.out (by decide);rw[HCF.out] at hnk;clear hck hb8)
   | (go_at_call 25;(with_reducible refine hnk.mono ?_);rintro e w9 ⟨rfl,hb9⟩;have HP9:=qAq (HP8.out.later hb9);have heq:=lX a1 0 a3 a2 a4 w9;clear hnk hb9)
   | (go_at_call 17;(with_reducible refine heq.mono ?_);rintro e w10 ⟨rfl,hb10⟩;have HP10:=qAq (HP9.out.later hb10);clear heq hb10))
  go_roundg (n+11-(i+10))
  case measure=>omega
  exact⟨i+10,by go_num,by omega,by omega,by rw[HXE.out];exact HP10.out⟩
 clear hi hg;go_wp2_with fail;go_ret;exact⟨rfl,HFIN.out _ _ _ HP.out⟩
theorem qX {L L2:List OpX} {sv sv2:List Value} (h:sv.length=L.length):cO (L++L2) (sv++sv2)=cO L sv++cO L2 sv2:=by
 unfold cO;rw[List.zip_append h.symm,List.flatMap_append]
theorem aAb:∀ {L:List OpX} {sv:List Value},(∀ v∈sv,v.oneCell'=true)->∀ u∈cO L sv,u.oneCell'=true:=fun h u hu=>by
 unfold cO at hu;rw[List.mem_flatMap] at hu;obtain⟨⟨o,v⟩,hz,hx⟩:=hu;exact aAF o v (h v (List.of_mem_zip hz).2) u hx
theorem wW {y:World} {base n c k c2 g0:Nat} {p:Option Addr} {ops us:List OpX} (h:OpsO y base (.slice p n c) ops) (hn:ops.length=n) (hu:OpsO y base (.slice (some ⟨g0,0,none⟩) k c2) us) (hk:us.length=k) (h0:0<k) (hm:n+k<=1000000) (hb:base<=y.heap.size) :
  ∃ g cap w',(Builtin.append_ #[22,22] 22 #[.slice p n c,.slice (some ⟨g0,0,none⟩) k c2]).run Tryz.prog y=.ok (.slice (some ⟨g,0,none⟩) (n+k) cap) w' /\
   OpsO w' base (.slice (some ⟨g,0,none⟩) (n+k) cap) (ops++us)/\Below base y w':=by
 subst hn hk;obtain⟨sv,h1,h2,h3⟩:=h;obtain⟨sv2,u1,u2,u3⟩:=hu
 have hone:∀ v∈sv2,v.oneCell'=true:=fun v hv=>by
  obtain⟨j,hj,rfl⟩:=List.getElem_of_mem hv;obtain⟨v',e1,e2⟩:=u3 j (by omega);rw[qQq hj] at e1;cases e1;obtain⟨p',c',e,_,_⟩:=HRow.isslice e2;rw[e];rfl
 obtain⟨i0,hi0,hz0,hz1,hz2⟩:=info_parts aDD;obtain⟨g,cap,w',hr,k1,k2,k3⟩:=bC (P:=Tryz.prog) y base 22 22 47 i0 _ 5 _ Tryz.underlying22 hi0 hz0 hz1 hz2 rfl (by decide) h2 ⟨g0,0,none⟩ us.length c2 (cO us sv2) u2.1 (fun j u hj=>by rw[Addr.add_lit,Nat.zero_add];exact u2.cell hj) (aAb hone) h0 (by unfold maxLen;omega) (by omega) hb
 have hap:∀ {v:Value} {m:Nat} {xs:List Value},HRow y base 42 3 v m xs->HRow w' base 42 3 v m xs:=fun hr'=>hr'.by_other k2 (fun k cur hk hc=>by
  obtain⟨_,cur2,e⟩:=HRow.block h2 k hk;rw[e] at hc;cases hc)
 refine⟨g,cap,w',hr,⟨sv++sv2,by rw[List.length_append,List.length_append,h1,u1],?_,fun j hj=>?_⟩,fZ (n:=base) h2 k2 (Nat.le_refl _) hb⟩
 ·rw[qX h1,List.length_append];exact k1
 by_cases e:j<ops.length
 ·obtain⟨v,e1,e2⟩:=h3 j e;refine⟨v,by rw[List.getElem?_append_left (by omega)];exact e1,?_⟩;rw[List.getElem_append_left e];exact hap e2
 rw[List.length_append] at hj;obtain⟨v,e1,e2⟩:=u3 (j-ops.length) (by omega);refine⟨v,by rw[List.getElem?_append_right (by omega),h1];exact e1,?_⟩;rw[List.getElem_append_right (by omega)];exact hap e2
theorem eF (nm:ByteArray) (vals:List T3) (n:Nat) (cs:Array Value) (hcs:cs.toList=cells3 vals) (hn:vals.length=n) (h0:0<n) (h1:n<=1000) (w1:World):Calls Tryz.prog 26 #[.string nm,.slice (some ⟨w1.heap.size,0,none⟩) n n] (w1.alloc (.cells cs 42)) fun e w'=>∃ g cap,e=.returned (aFI nm (.slice (some ⟨g,0,none⟩) n cap))/\HRow w' w1.heap.size 42 3 (.slice (some ⟨g,0,none⟩) n cap) n (cells3 vals)/\Below w1.heap.size w1 w':=by
 subst hn;have k:=qOq w1 (.cells cs 42);have b:=aC w1 (.cells cs 42);have hr:HRow (w1.alloc (.cells cs 42)) w1.heap.size 42 3 (.slice (some ⟨w1.heap.size,0,none⟩) vals.length vals.length) vals.length (cells3 vals):=HRow.lit k hcs (gI vals) (Nat.le_refl _) (by unfold maxLen;omega);refine (rZ nm (InV.of_row hr rfl) h0 h1).mono ?_;rintro e w' ⟨g,cap,rfl,hr',hb'⟩;exact⟨g,cap,rfl,hr'.mono b.size,aB b hb'⟩
abbrev sC:ByteArray:=⟨#[99]⟩
abbrev sZ:ByteArray:=⟨#[122]⟩
abbrev sE:ByteArray:=⟨#[101]⟩
abbrev pO (nm:ByteArray) (vals:List T3):OpX:=⟨1,nm,0,e0,vals⟩
def aHt:List OpX:=[pO aV [(1,1,e0),(2,0,sA)],pO kK [(2,0,sD),(1,1,e0),(1,2001,e0)]]
def aGR (i:Int):List OpX:=[pO aW [(1,i,e0),(2,0,sC),(2,0,sZ),(1,1,e0)],pO mW [(1,i,e0),(2,0,sD),(1,5,e0),(0,0,e0)]]
def kB (n:Nat):List OpX:=aHt++(List.range n).flatMap fun i:Nat=>aGR (i:Int)
def kEx:Nat->List OpX
 | 1=>[pO aW [(1,90,e0),(0,0,e0),(2,0,sZ),(1,1,e0)]]
 | 2=>[pO aV [(1,1,e0),(2,0,sB)]]
 | 3=>[pO mW [(1,77,e0),(2,0,sD),(1,5,e0),(0,0,e0)]]
 | 4=>[pO kK [(2,0,sE),(1,1,e0),(1,2002,e0)]]
 | 5=>[pO kK [(0,0,e0),(1,2,e0),(0,0,e0)]]
 | _=>[]
def aAT:Nat->Int
 | 1=>7 | 2=>8 | 3=>9 | 4=>10 | 5=>7 | _=>0
def errOf (ops:List OpX):Int:=(bF (pre 4) ((bR (pre 4) Lz ops).map (·.2))).1
theorem sF (n:Nat):kB (n+1)=kB n++aGR (n:Int):=by
 unfold kB;rw[List.range_succ,List.flatMap_append,List.append_assoc]
 simp
theorem bS:∀ n:Nat,(kB n).length=2+2*n
 | 0=>rfl
 | n+1=>by rw[sF,List.length_append,bS n,show (aGR (n:Int)).length=2 from rfl];omega
theorem aHu:((List.range 9).all fun n=>(List.range 6).all fun k=>decide (errOf (kB n++kEx k)=aAT k))=true:=by kernel_rfl
theorem aHv {n k:Nat} (hn:n<=8) (hk:k<=5):errOf (kB n++kEx k)=aAT k :=
 of_decide_eq_true (List.all_eq_true.1 (List.all_eq_true.1 aHu n (List.mem_range.2 (by omega))) k (List.mem_range.2 (by omega)))
def okB (o:OpX):Bool:=decide (o.tbl.size<=100)&&decide (o.col.size<=100)&&decide (o.id=0)&&(o.vals.all fun x=>decide (x.2.2.size<=100))&&decide (o.vals.length<=10)
theorem aAU:∀ k:Nat,(kEx k).length<=1
 | 0=>by decide
 | 1=>by decide
 | 2=>by decide
 | 3=>by decide
 | 4=>by decide
 | 5=>by decide
 | k+6=>Nat.zero_le _
theorem aGS {o:OpX} (h:okB o=true):OpOk o:=by
 obtain⟨k,tb,id,col,v⟩:=o;unfold okB at h;simp only[Bool.and_eq_true,decide_eq_true_eq,List.all_eq_true] at h;obtain⟨⟨⟨⟨h1,h2⟩,rfl⟩,h3⟩,h4⟩:=h;exact tT h1 h2 h3 h4
theorem aHw:((List.range 9).all fun n=>(List.range 6).all fun k=>(kB n++kEx k).all okB)=true:=by kernel_rfl
theorem aHK {n k:Nat} (hn:n<=8) (hk:k<=5) {o:OpX} (ho:o∈kB n++kEx k):OpOk o :=
 aGS (List.all_eq_true.1 (List.all_eq_true.1 (List.all_eq_true.1 aHw n (List.mem_range.2 (by omega))) k (List.mem_range.2 (by omega))) o ho)
abbrev qI (n1 n2:ByteArray) (v1 v2:Value):Array Value:=#[.int .i64 1,.string n1,.int .i64 0,.string e0,v1,.int .i64 1,.string n2,.int .i64 0,.string e0,v2]
theorem aEe {wr w:World} {base n c k1 k2 g1 g2 m1 m2:Nat} {p:Option Addr} {ops:List OpX} {n1 n2:ByteArray} {l1 l2:List T3} (ho:OpsO wr base (.slice p n c) ops) (hn:ops.length=n) (hb:Below wr.heap.size wr w) (hle:base<=w.heap.size) (hle2:base<=wr.heap.size)
  (h1:HRow w wr.heap.size 42 3 (.slice (some ⟨g1,0,none⟩) m1 k1) l1.length (cells3 l1)) (h2:HRow w wr.heap.size 42 3 (.slice (some ⟨g2,0,none⟩) m2 k2) l2.length (cells3 l2)) (hm:n+2<=1000000) :
  ∃ g cap w',(Builtin.append_ #[22,22] 22 #[.slice p n c,.slice (some ⟨w.heap.size,0,none⟩) 2 2]).run Tryz.prog (w.alloc (.cells (qI n1 n2 (.slice (some ⟨g1,0,none⟩) m1 k1) (.slice (some ⟨g2,0,none⟩) m2 k2)) 47))=.ok (.slice (some ⟨g,0,none⟩) (n+2) cap) w' /\
   OpsO w' base (.slice (some ⟨g,0,none⟩) (n+2) cap) (ops++[pO n1 l1,pO n2 l2])/\Below base wr w':=by
 have b:=aC w (.cells (qI n1 n2 (.slice (some ⟨g1,0,none⟩) m1 k1) (.slice (some ⟨g2,0,none⟩) m2 k2)) 47);have k:=qOq w (.cells (qI n1 n2 (.slice (some ⟨g1,0,none⟩) m1 k1) (.slice (some ⟨g2,0,none⟩) m2 k2)) 47);have hu:OpsO (w.alloc (.cells (qI n1 n2 (.slice (some ⟨g1,0,none⟩) m1 k1) (.slice (some ⟨g2,0,none⟩) m2 k2)) 47)) base (.slice (some ⟨w.heap.size,0,none⟩) 2 2) [pO n1 l1,pO n2 l2]:=zP (v1:=.slice (some ⟨g1,0,none⟩) m1 k1) (v2:=.slice (some ⟨g2,0,none⟩) m2 k2) k rfl hle ((h1.mono hle2).later b) ((h2.mono hle2).later b);obtain⟨g,cap,w',q1,q2,q3⟩:=wW ((ho.later hb).later b) hn hu rfl (by decide) hm (Nat.le_trans hle b.size);exact⟨g,cap,w',q1,q2,((aB hb b).mono hle2).trans q3⟩
theorem fB {wr w:World} {base n c k1 g1 m1:Nat} {p:Option Addr} {ops:List OpX} {n1:ByteArray} {l1:List T3} (ho:OpsO wr base (.slice p n c) ops) (hn:ops.length=n) (hb:Below wr.heap.size wr w) (hle2:base<=wr.heap.size)
  (h1:HRow w wr.heap.size 42 3 (.slice (some ⟨g1,0,none⟩) m1 k1) l1.length (cells3 l1)) (hm:n+1<=1000000) :
  ∃ g cap w',(Builtin.append_ #[22,22] 22 #[.slice p n c,.slice (some ⟨w.heap.size,0,none⟩) 1 1]).run Tryz.prog (w.alloc (.cells #[.int .i64 1,.string n1,.int .i64 0,.string e0,.slice (some ⟨g1,0,none⟩) m1 k1] 47))=.ok (.slice (some ⟨g,0,none⟩) (n+1) cap) w' /\
   OpsO w' base (.slice (some ⟨g,0,none⟩) (n+1) cap) (ops++[pO n1 l1])/\Below base wr w':=by
 have b:=aC w (.cells #[.int .i64 1,.string n1,.int .i64 0,.string e0,.slice (some ⟨g1,0,none⟩) m1 k1] 47);have k:=qOq w (.cells #[.int .i64 1,.string n1,.int .i64 0,.string e0,.slice (some ⟨g1,0,none⟩) m1 k1] 47);have hle:=Nat.le_trans hle2 hb.size;have hu:OpsO (w.alloc (.cells #[.int .i64 1,.string n1,.int .i64 0,.string e0,.slice (some ⟨g1,0,none⟩) m1 k1] 47)) base (.slice (some ⟨w.heap.size,0,none⟩) 1 1) [pO n1 l1]:=aGM (v1:=.slice (some ⟨g1,0,none⟩) m1 k1) k rfl hle ((h1.mono hle2).later b);obtain⟨g,cap,w',q1,q2,q3⟩:=wW ((ho.later hb).later b) hn hu rfl (by decide) hm (Nat.le_trans hle b.size);exact⟨g,cap,w',q1,q2,((aB hb b).mono hle2).trans q3⟩
theorem aAc (a0 a1:Int) (W:World):Calls Tryz.prog 7 #[.int .i64 a0,.int .i64 a1] W fun e w'=>e=.returned (.bool true)/\Below W.heap.size W w':=by
 have hbeg:=iY W;by_cases hneg:a1<0
 ·go_enter Tryz.func7,Tryz.ntmps7;go_wp2_with (go_at_call 23;(with_reducible refine hbeg.mono ?_);rintro e w4 ⟨rfl,hb2⟩);go_ret;exact⟨rfl,hb2⟩
 by_cases hbig:a1>8
 ·go_enter Tryz.func7,Tryz.ntmps7;go_wp2_with (go_at_call 23;(with_reducible refine hbeg.mono ?_);rintro e w4 ⟨rfl,hb2⟩);go_ret;exact⟨rfl,hb2⟩
 obtain⟨n,rfl⟩:∃ n:Nat,a1=(n:Int):=⟨a1.toNat,by omega⟩;have hn8:(n:Int)<=8:=(by omega);go_enter Tryz.func7,Tryz.ntmps7;go_upto_region 6 with (go_at_call 23;(with_reducible refine hbeg.mono ?_);rintro e w4 ⟨rfl,hb2⟩;have H4:=qAq hb2;clear hbeg hb2);have hstar:=lV w4;go_upto_region 7 with (go_at_call 12;(with_reducible refine hstar.mono ?_);rintro e w5 ⟨d,b,ps,rfl,hP5⟩;have HP5:=qAq hP5;clear hstar hP5);have hn1:=aU 1 w5
 go_upto_region 8 with (first
  | (go_at_call 27;(with_reducible refine hn1.mono ?_);rintro e w6 ⟨rfl,hb6⟩;have B6:=qAq hb6;have ht1:=bH sA w6;clear hn1 hb6)
  | (go_at_call 28;(with_reducible refine ht1.mono ?_);rintro e w7 ⟨rfl,hb7⟩;have B7:=qAq (aB B6.out hb7);have hp1:=eF aV [(1,1,e0),(2,0,sA)] 2 #[.int .i64 1,.int .i64 1,.string e0,.int .i64 2,.int .i64 0,.string sA] rfl rfl (by decide) (by decide) w7;clear ht1 hb7)
  | (go_at_call 26;(with_reducible refine hp1.mono ?_);rintro e w8 ⟨g1,k1,rfl,hr8,hb8⟩;have B8:=qAq (qBq (aB B7.out hb8) (hr8.mono B7.out.size));have ht2:=bH sD w8;clear hp1 hr8 hb8)
  | (go_at_call 28;(with_reducible refine ht2.mono ?_);rintro e w9 ⟨rfl,hb9⟩;have B9:=qAq (qBq (aB B8.out.1 hb9) (B8.out.2.later hb9));have hn2:=aU 1 w9;clear ht2 hb9)
  | (go_at_call 27;(with_reducible refine hn2.mono ?_);rintro e w10 ⟨rfl,hb10⟩;have B10:=qAq (qBq (aB B9.out.1 hb10) (B9.out.2.later hb10));have hn3:=aU 2001 w10;clear hn2 hb10)
  | (go_at_call 27;(with_reducible refine hn3.mono ?_);rintro e w11 ⟨rfl,hb11⟩;have B11:=qAq (qBq (aB B10.out.1 hb11) (B10.out.2.later hb11));have hp2:=eF kK [(2,0,sD),(1,1,e0),(1,2001,e0)] 3 #[.int .i64 2,.int .i64 0,.string sD,.int .i64 1,.int .i64 1,.string e0,.int .i64 1,.int .i64 2001,.string e0] rfl rfl (by decide) (by decide) w11;clear hn3 hb11)
  | (go_at_call 26;(with_reducible refine hp2.mono ?_);rintro e w12 ⟨g2,k2,rfl,hr12,hb12⟩;have B12:=qAq (qBq (aB B11.out.1 hb12) (qBq (B11.out.2.later hb12) (hr12.mono B11.out.1.size)));clear hp2 hr12 hb12))
 have b13:=aC w12 (.cells (qI aV kK (.slice (some ⟨g1,0,none⟩) 2 k1) (.slice (some ⟨g2,0,none⟩) 3 k2)) 47);have k13:=qOq w12 (.cells (qI aV kK (.slice (some ⟨g1,0,none⟩) 2 k1) (.slice (some ⟨g2,0,none⟩) 3 k2)) 47);have hops:OpsO (w12.alloc (.cells (qI aV kK (.slice (some ⟨g1,0,none⟩) 2 k1) (.slice (some ⟨g2,0,none⟩) 3 k2)) 47)) w5.heap.size (.slice (some ⟨w12.heap.size,0,none⟩) 2 2) (kB 0):=zP (v1:=.slice (some ⟨g1,0,none⟩) 2 k1) (v2:=.slice (some ⟨g2,0,none⟩) 3 k2) k13 rfl B12.out.1.size (B12.out.2.1.later b13) (B12.out.2.2.later b13);have hbB:=aB B12.out.1 b13;have HB0:=qAq (qBq hops hbB);clear b13 k13 hops hbB;go_wp2_with fail;go_loopg [8,9] (n+1) (fun gh lv jv w=>∃ (j:Nat) (p:Option Addr) (c:Nat),jv=.int .i64 (j:Int)/\j<=n/\n+1<=j+gh/\lv=.slice p (2+2*j) c/\OpsO w w5.heap.size (.slice p (2+2*j) c) (kB j)/\Below w5.heap.size w5 w)
 case atStart=>exact⟨0,_,_,rfl,Nat.zero_le _,by omega,rfl,HB0.out.1,HB0.out.2⟩
 obtain⟨j,p,c,rfl,hj,hg,rfl,ho,hB⟩:=hrel;have HB:=qAq (qBq ho hB);clear ho hB;by_cases hlt:j<n
 ·have hji:(j:Int)<(n:Int):=(by omega);have hn1:=aU (j:Int) wr
  go_wp2_with (first
   | (go_at_call 27;(with_reducible refine hn1.mono ?_);rintro e w6 ⟨rfl,hb6⟩;have C6:=qAq (aB HB.out.2 hb6);have D6:=qAq hb6;have ht1:=bH sC w6;clear hn1 hb6)
   | (go_at_call 28;(with_reducible refine ht1.mono ?_);rintro e w7 ⟨rfl,hb7⟩;have D7:=qAq (aB D6.out hb7);have ht2:=bH sZ w7;clear ht1 hb7)
   | (go_at_call 28;(with_reducible refine ht2.mono ?_);rintro e w8 ⟨rfl,hb8⟩;have D8:=qAq (aB D7.out hb8);have hn2:=aU 1 w8;clear ht2 hb8)
   | (go_at_call 27;(with_reducible refine hn2.mono ?_);rintro e w9 ⟨rfl,hb9⟩;have D9:=qAq (aB D8.out hb9);have hp1:=eF aW [(1,(j:Int),e0),(2,0,sC),(2,0,sZ),(1,1,e0)] 4 #[.int .i64 1,.int .i64 (j:Int),.string e0,.int .i64 2,.int .i64 0,.string sC,.int .i64 2,.int .i64 0,.string sZ,.int .i64 1,.int .i64 1,.string e0] rfl rfl (by decide) (by decide) w9;clear hn2 hb9)
   | (go_at_call 26;(with_reducible refine hp1.mono ?_);rintro e w10 ⟨g3,k3,rfl,hr10,hb10⟩;have D10:=qAq (qBq (aB D9.out hb10) (hr10.mono D9.out.size));have hn3:=aU (j:Int) w10;clear hp1 hr10 hb10)
   | (go_at_call 27;(with_reducible refine hn3.mono ?_);rintro e w11 ⟨rfl,hb11⟩;have D11:=qAq (qBq (aB D10.out.1 hb11) (D10.out.2.later hb11));have ht3:=bH sD w11;clear hn3 hb11)
   | (go_at_call 28;(with_reducible refine ht3.mono ?_);rintro e w13 ⟨rfl,hb13⟩;have D13:=qAq (qBq (aB D11.out.1 hb13) (D11.out.2.later hb13));have hn4:=aU 5 w13;clear ht3 hb13)
   | (go_at_call 27;(with_reducible refine hn4.mono ?_);rintro e w14 ⟨rfl,hb14⟩;have D14:=qAq (qBq (aB D13.out.1 hb14) (D13.out.2.later hb14));have hp2:=eF mW [(1,(j:Int),e0),(2,0,sD),(1,5,e0),(0,0,e0)] 4 #[.int .i64 1,.int .i64 (j:Int),.string e0,.int .i64 2,.int .i64 0,.string sD,.int .i64 1,.int .i64 5,.string e0,.int .i64 0,.int .i64 0,.string e0] rfl rfl (by decide) (by decide) w14;clear hn4 hb14)
   | (go_at_call 26;(with_reducible refine hp2.mono ?_);rintro e w15 ⟨g4,k4,rfl,hr15,hb15⟩;have hrun:=aEe (n1:=aW) (n2:=mW) (base:=w5.heap.size) (l1:=[(1,(j:Int),e0),(2,0,sC),(2,0,sZ),(1,1,e0)]) (l2:=[(1,(j:Int),e0),(2,0,sD),(1,5,e0),(0,0,e0)]) HB.out.1 (bS j) (aB D14.out.1 hb15) (Nat.le_trans HB.out.2.size (aB D14.out.1 hb15).size) HB.out.2.size (D14.out.2.later hb15) (hr15.mono D14.out.1.size) (by omega);obtain⟨g,cap,wz,hrun,ho2,hbz⟩:=hrun;have HZ:=qAq (qBq ho2 (HB.out.2.trans hbz));clear hp2 hr15 hb15 ho2 hbz)
   | (at_builtin;refine wpList_append_run rfl (.tmp 40) (.tmp 55) 22 rfl rfl rfl hrun ?_))
  go_roundg (n-j)
  case measure=>omega
  exact⟨j+1,_,_,by go_num,by omega,by omega,rfl,by rw[sF];exact HZ.out.1,HZ.out.2⟩
 obtain rfl:j=n:=(by omega);clear hj hg hlt
 go_upto_block 2 with fail
 obtain⟨wc,hwc⟩:∃ z,z=wr:=⟨_,rfl⟩;subst hwc
 go_cut [8,10] from 57 to 111 (fun lv wv w=>∃ (p:Option Addr) (m c k:Nat),lv=.slice p m c/\(kB j++kEx k).length=m/\k<=5/\wv=.int .i64 (aAT k)/\OpsO w w5.heap.size (.slice p m c) (kB j++kEx k)/\Below w5.heap.size w5 w)
 case first =>
  generalize (wrap64 (a0.tmod 6+6)).tmod 6=x;have hj8:j<=8:=(by omega);by_cases hx1:x=1
  ·subst hx1;have hc0:=aU 90 wc
   go_wp2_with (first
    | (go_at_call 27;(with_reducible refine hc0.mono ?_);rintro e y0 ⟨rfl,hq0⟩;have E0:=qAq (hq0);have hc1:=bH sZ y0;clear hc0 hq0)
    | (go_at_call 28;(with_reducible refine hc1.mono ?_);rintro e y1 ⟨rfl,hq1⟩;have E1:=qAq (aB E0.out hq1);have hc2:=aU 1 y1;clear hc1 hq1)
    | (go_at_call 27;(with_reducible refine hc2.mono ?_);rintro e y2 ⟨rfl,hq2⟩;have E2:=qAq (aB E1.out hq2);have hp1:=eF aW [(1,90,e0),(0,0,e0),(2,0,sZ),(1,1,e0)] 4 #[.int .i64 1,.int .i64 90,.string e0,.int .i64 0,.int .i64 0,.string e0,.int .i64 2,.int .i64 0,.string sZ,.int .i64 1,.int .i64 1,.string e0] rfl rfl (by decide) (by decide) y2;clear hc2 hq2)
    | (go_at_call 26;(with_reducible refine hp1.mono ?_);rintro e yz ⟨g3,k3,rfl,hr3,hz3⟩;have hrun:=fB (n1:=aW) (base:=w5.heap.size) (l1:=[(1,90,e0),(0,0,e0),(2,0,sZ),(1,1,e0)]) HB.out.1 (bS j) (aB E2.out hz3) HB.out.2.size (hr3.mono E2.out.size) (by omega);obtain⟨g,cap,wz,hrun,ho2,hbz⟩:=hrun;have HZ:=qAq (qBq ho2 (HB.out.2.trans hbz));clear hp1 hr3 hz3 ho2 hbz)
    | (at_builtin;refine wpList_append_run rfl (.tmp 63) (.tmp 70) 22 rfl rfl rfl hrun ?_))
   go_meet;exact⟨_,_,_,1,rfl,by rw[List.length_append,bS];rfl,by decide,rfl,HZ.out.1,HZ.out.2⟩
  have hb1:(x==1)=false:=beq_eq_false_iff_ne.2 hx1;by_cases hx2:x=2
  ·subst hx2;have hc0:=aU 1 wc
   go_wp2_with (first
    | (go_at_call 27;(with_reducible refine hc0.mono ?_);rintro e y0 ⟨rfl,hq0⟩;have E0:=qAq (hq0);have hc1:=bH sB y0;clear hc0 hq0)
    | (go_at_call 28;(with_reducible refine hc1.mono ?_);rintro e y1 ⟨rfl,hq1⟩;have E1:=qAq (aB E0.out hq1);have hp1:=eF aV [(1,1,e0),(2,0,sB)] 2 #[.int .i64 1,.int .i64 1,.string e0,.int .i64 2,.int .i64 0,.string sB] rfl rfl (by decide) (by decide) y1;clear hc1 hq1)
    | (go_at_call 26;(with_reducible refine hp1.mono ?_);rintro e yz ⟨g3,k3,rfl,hr3,hz3⟩;have hrun:=fB (n1:=aV) (base:=w5.heap.size) (l1:=[(1,1,e0),(2,0,sB)]) HB.out.1 (bS j) (aB E1.out hz3) HB.out.2.size (hr3.mono E1.out.size) (by omega);obtain⟨g,cap,wz,hrun,ho2,hbz⟩:=hrun;have HZ:=qAq (qBq ho2 (HB.out.2.trans hbz));clear hp1 hr3 hz3 ho2 hbz)
    | (at_builtin;refine wpList_append_run rfl (.tmp 74) (.tmp 79) 22 rfl rfl rfl hrun ?_))
   go_meet;exact⟨_,_,_,2,rfl,by rw[List.length_append,bS];rfl,by decide,rfl,HZ.out.1,HZ.out.2⟩
  have hb2:(x==2)=false:=beq_eq_false_iff_ne.2 hx2;by_cases hx3:x=3
  ·subst hx3;have hc0:=aU 77 wc
   go_wp2_with (first
    | (go_at_call 27;(with_reducible refine hc0.mono ?_);rintro e y0 ⟨rfl,hq0⟩;have E0:=qAq (hq0);have hc1:=bH sD y0;clear hc0 hq0)
    | (go_at_call 28;(with_reducible refine hc1.mono ?_);rintro e y1 ⟨rfl,hq1⟩;have E1:=qAq (aB E0.out hq1);have hc2:=aU 5 y1;clear hc1 hq1)
    | (go_at_call 27;(with_reducible refine hc2.mono ?_);rintro e y2 ⟨rfl,hq2⟩;have E2:=qAq (aB E1.out hq2);have hp1:=eF mW [(1,77,e0),(2,0,sD),(1,5,e0),(0,0,e0)] 4 #[.int .i64 1,.int .i64 77,.string e0,.int .i64 2,.int .i64 0,.string sD,.int .i64 1,.int .i64 5,.string e0,.int .i64 0,.int .i64 0,.string e0] rfl rfl (by decide) (by decide) y2;clear hc2 hq2)
    | (go_at_call 26;(with_reducible refine hp1.mono ?_);rintro e yz ⟨g3,k3,rfl,hr3,hz3⟩;have hrun:=fB (n1:=mW) (base:=w5.heap.size) (l1:=[(1,77,e0),(2,0,sD),(1,5,e0),(0,0,e0)]) HB.out.1 (bS j) (aB E2.out hz3) HB.out.2.size (hr3.mono E2.out.size) (by omega);obtain⟨g,cap,wz,hrun,ho2,hbz⟩:=hrun;have HZ:=qAq (qBq ho2 (HB.out.2.trans hbz));clear hp1 hr3 hz3 ho2 hbz)
    | (at_builtin;refine wpList_append_run rfl (.tmp 83) (.tmp 90) 22 rfl rfl rfl hrun ?_))
   go_meet;exact⟨_,_,_,3,rfl,by rw[List.length_append,bS];rfl,by decide,rfl,HZ.out.1,HZ.out.2⟩
  have hb3:(x==3)=false:=beq_eq_false_iff_ne.2 hx3;by_cases hx4:x=4
  ·subst hx4;have hc0:=bH sE wc
   go_wp2_with (first
    | (go_at_call 28;(with_reducible refine hc0.mono ?_);rintro e y0 ⟨rfl,hq0⟩;have E0:=qAq (hq0);have hc1:=aU 1 y0;clear hc0 hq0)
    | (go_at_call 27;(with_reducible refine hc1.mono ?_);rintro e y1 ⟨rfl,hq1⟩;have E1:=qAq (aB E0.out hq1);have hc2:=aU 2002 y1;clear hc1 hq1)
    | (go_at_call 27;(with_reducible refine hc2.mono ?_);rintro e y2 ⟨rfl,hq2⟩;have E2:=qAq (aB E1.out hq2);have hp1:=eF kK [(2,0,sE),(1,1,e0),(1,2002,e0)] 3 #[.int .i64 2,.int .i64 0,.string sE,.int .i64 1,.int .i64 1,.string e0,.int .i64 1,.int .i64 2002,.string e0] rfl rfl (by decide) (by decide) y2;clear hc2 hq2)
    | (go_at_call 26;(with_reducible refine hp1.mono ?_);rintro e yz ⟨g3,k3,rfl,hr3,hz3⟩;have hrun:=fB (n1:=kK) (base:=w5.heap.size) (l1:=[(2,0,sE),(1,1,e0),(1,2002,e0)]) HB.out.1 (bS j) (aB E2.out hz3) HB.out.2.size (hr3.mono E2.out.size) (by omega);obtain⟨g,cap,wz,hrun,ho2,hbz⟩:=hrun;have HZ:=qAq (qBq ho2 (HB.out.2.trans hbz));clear hp1 hr3 hz3 ho2 hbz)
    | (at_builtin;refine wpList_append_run rfl (.tmp 94) (.tmp 100) 22 rfl rfl rfl hrun ?_))
   go_meet;exact⟨_,_,_,4,rfl,by rw[List.length_append,bS];rfl,by decide,rfl,HZ.out.1,HZ.out.2⟩
  have hb4:(x==4)=false:=beq_eq_false_iff_ne.2 hx4;by_cases hx5:x=5
  ·subst hx5;have hc0:=aU 2 wc
   go_wp2_with (first
    | (go_at_call 27;(with_reducible refine hc0.mono ?_);rintro e y0 ⟨rfl,hq0⟩;have E0:=qAq (hq0);have hp1:=eF kK [(0,0,e0),(1,2,e0),(0,0,e0)] 3 #[.int .i64 0,.int .i64 0,.string e0,.int .i64 1,.int .i64 2,.string e0,.int .i64 0,.int .i64 0,.string e0] rfl rfl (by decide) (by decide) y0;clear hc0 hq0)
    | (go_at_call 26;(with_reducible refine hp1.mono ?_);rintro e yz ⟨g3,k3,rfl,hr3,hz3⟩;have hrun:=fB (n1:=kK) (base:=w5.heap.size) (l1:=[(0,0,e0),(1,2,e0),(0,0,e0)]) HB.out.1 (bS j) (aB E0.out hz3) HB.out.2.size (hr3.mono E0.out.size) (by omega);obtain⟨g,cap,wz,hrun,ho2,hbz⟩:=hrun;have HZ:=qAq (qBq ho2 (HB.out.2.trans hbz));clear hp1 hr3 hz3 ho2 hbz)
    | (at_builtin;refine wpList_append_run rfl (.tmp 104) (.tmp 110) 22 rfl rfl rfl hrun ?_))
   go_meet;exact⟨_,_,_,5,rfl,by rw[List.length_append,bS];rfl,by decide,rfl,HZ.out.1,HZ.out.2⟩
  have hb5:(x==5)=false:=beq_eq_false_iff_ne.2 hx5;go_wp2_with fail;go_meet;exact⟨_,_,_,0,rfl,by rw[List.length_append,bS];rfl,by decide,rfl,by rw[show kEx 0=[] from rfl,List.append_nil];exact HB.out.1,HB.out.2⟩
 obtain⟨p',m,c',k,rfl,hm,hk,rfl,ho,hBc⟩:=hcut;have hj8:j<=8:=(by omega);have hP:=HP5.out.with hBc
 have hfill:Calls Tryz.prog 13 #[.pointer (some ⟨d,0,none⟩),.pointer (some ⟨b,0,none⟩),.slice p' m c'] wc (fun e w'=>e=.returned (.tuple #[])/\PD (fun q=>q<w4.heap.size∨(w5.heap.size<=q/\q<wc.heap.size)) wc w' d b (pre 4) ps (bR (pre 4) Lz (kB j++kEx k)) (bR (pre 4) Lz (kB j++kEx k))):=by
  subst hm;exact qH (m:=0) hP ho (fun q h1 h2=>.inr ⟨h1,h2⟩) (eD 4 (by decide)) (dH 4) aR qA iC iC (by rw[List.length_append,bS];have:=aAU k;omega) (fun o ho=>aHK hj8 hk ho)
 have hsm:∀ x∈bR (pre 4) Lz (kB j++kEx k),SmP 100 x:=(fun x hx=>(fM iC x hx).mono (by rw[List.length_append,bS];have:=aAU k;omega));have herr:=aHv hj8 hk;unfold errOf at herr;obtain⟨X,hX⟩:∃ X,bR (pre 4) Lz (kB j++kEx k)=X:=⟨_,rfl⟩;obtain⟨wt,hwt⟩:∃ x,aAT k=x:=⟨_,rfl⟩;rw[hX] at hfill hsm herr;rw[hwt] at herr;rw[hwt];obtain⟨⟨a1,a2,a3,a4⟩,hcf⟩:∃ x,bF (pre 4) (X.map (·.2))=x:=⟨_,rfl⟩;rw[hcf] at herr;obtain rfl:a1=wt:=herr;have HC:=qAq (qBq hcf (qBq hsm hBc));clear hX hwt hcf hsm hm hk ho hBc hP hj8;go_upto_region 25 with (go_at_call 13;(with_reducible refine hfill.mono ?_);rintro e w13 ⟨rfl,hP13⟩;have HP13:=qAq ((HP5.out.later HC.out.2.2).back hP13 (fun q hq=>.inl hq));clear hfill hP13);have hck:=HP13.out.check dC HC.out.2.1 (by decide);rw[HC.out.1] at hck;go_upto_region 26 with (go_at_call 24;(with_reducible refine hck.mono ?_);rintro e w14 ⟨rfl,hb14⟩;have H14:=qAq hb14;clear hck hb14);have b15:=aC w14 (.cells #[.int .i64 a1,.int .i64 0,.string a2,.int .i64 a3,.string a4] 33);have k15:=qOq w14 (.cells #[.int .i64 a1,.int .i64 0,.string a2,.int .i64 a3,.string a4] 33);obtain⟨wF,hwF⟩:∃ y,w14.alloc (.cells #[.int .i64 a1,.int .i64 0,.string a2,.int .i64 a3,.string a4] 33)=y:=⟨_,rfl⟩;obtain⟨F,hF⟩:∃ x,w14.heap.size=x:=⟨_,rfl⟩;rw[hwF] at b15 k15;rw[hF] at k15
 try rw[hwF]
 try rw[hF]
 have HPF:=qAq (HP13.out.later (aB H14.out b15));have HK:Hid (∀ y,Below wF.heap.size wF y->y.heap[F]?=some (.cells #[.int .i64 a1,.int .i64 0,.string a2,.int .i64 a3,.string a4] 33)):=qAq (fun y hy=>aD hy k15)
 have HNK:Hid (∀ y,Below wF.heap.size wF y->Calls Tryz.prog 25 #[.pointer (some ⟨b,0,none⟩)] y fun e w'=>e=.returned (.agg #[.int .i64 a1,.int .i64 0,.string a2,.int .i64 a3,.string a4])/\Below y.heap.size y w'):=qAq (fun y hy=>by
  have:=(HPF.out.later hy).ncheck dC qG (by decide) HC.out.2.1 (by decide)
  rw[HC.out.1] at this;exact this)
 have HEQ:Hid (∀ y,Calls Tryz.prog 17 #[.agg #[.int .i64 a1,.int .i64 0,.string a2,.int .i64 a3,.string a4],.agg #[.int .i64 a1,.int .i64 0,.string a2,.int .i64 a3,.string a4]] y fun e w'=>e=.returned (.bool true)/\Below y.heap.size y w'):=qAq (fun y=>lX a1 0 a3 a2 a4 y);clear b15 k15 hwF hF;refine Par.wp_region_par 11 [.pointer (some ⟨F,0,none⟩),.int .i64 a1,.int .i64 a1,.bool true,.bool true,.agg #[.int .i64 a1,.int .i64 0,.string a2,.int .i64 a3,.string a4],.pointer (some ⟨b,0,none⟩),.agg #[.int .i64 a1,.int .i64 0,.string a2,.int .i64 a3,.string a4],.bool true,.bool true,.bool true] (fun y=>Below wF.heap.size wF y) ?A1 ?hm1 ?hB1 ?hA1 ((aE wF)) ?hop1 ?hT1
 case hm1=>kernel_rfl
 case hB1=>kernel_rfl
 case hA1 =>
  simp only[Par.putA,Par.dstAt,Act.put,qDq,qEq,qFq,qLq,qGq,qHq,qIq,qJq,qKq];rfl
 case hop1 =>
  simp only[qMq,List.take_zero,Par.GiveAll,and_true];and_intros<;>intro w' hR<;>have HR:=qAq hR
  have zl:=lt_of_heap (HK.out w' hR);rotate_left;have z0:=aA (HK.out w' hR) 0;rotate_left 4;have zl:=lt_of_heap (HK.out w' hR);have z0:=aA (HK.out w' hR) 0;have z1:=aA (HK.out w' hR) 1;have z2:=aA (HK.out w' hR) 2;have z3':=aA (HK.out w' hR) 3;have z4:=aA (HK.out w' hR) 4;rotate_left 2
  ·clear hR;simp only[Par.Gives];go_simp;exact (HNK.out w' HR.out).mono (fun e w'' ⟨he,hb⟩=>⟨he,aB HR.out hb⟩)
  ·clear hR;simp only[Par.Gives];go_simp;exact (HEQ.out w').mono (fun e w'' ⟨he,hb⟩=>⟨he,aB HR.out hb⟩)
  rotate_left 2
  all_goals(clear hR;simp only[Par.Gives];go_simp;all_goals exact HR.out)
 intro w' hR;simp only[qNq,List.drop_nil];have hbe:=aB H4.out ((HPF.out.later hR).bel (Below.refl _ _) (fun q hq=>hq));clear hR;go_wp2_with fail;go_ret;exact⟨rfl,hbe⟩
def kyV (v:Int):List T3:=[(1,v,e0),(0,0,e0)]
def kyO (v:Int):OpX:=pO aV (kyV v)
def kyR (vs:List Int):List R1:=vs.zipIdx.map fun p=>((p.2:Int),kyV p.1)
theorem aEf (us:List Int) (v:Int):kyR (us++[v])=kyR us++[((us.length:Int),kyV v)]:=by
 unfold kyR;rw[List.zipIdx_append,List.map_append]
 simp
theorem uA (vs:List Int):(kyR vs).length=vs.length:=by unfold kyR;rw[List.length_map,List.length_zipIdx]
theorem aGT (v:Int):cU (pre 4)[0] (kyV v)=0:=by kernel_rfl
def kyL (vs:List Int):List PT:=[(vs.length,kyR vs),(0,[]),(0,[]),(0,[])]
theorem aFJ (us:List Int) (v:Int):iQ (pre 4) (kyL us) (kyO v)=kyL (us++[v]):=by
 rw[pY (j:=0) (by kernel_rfl) (by decide) (by show 0<4;decide)]
 have h:(kyL us).set 0 (insP (pre 4)[0] (us.length,kyR us) (kyV v))=kyL (us++[v]):=by
  unfold insP;rw[if_pos (aGT v)];unfold kyL;rw[aEf,List.length_append];rfl
 exact h
theorem aAV:∀ (vs us:List Int),(vs.map kyO).foldl (iQ (pre 4)) (kyL us)=kyL (us++vs)
 | [],us=>by rw[List.append_nil];rfl
 | v::vs,us=>by rw[List.map_cons,List.foldl_cons,aFJ,aAV vs,List.append_assoc];rfl
theorem wX (vs:List Int):bR (pre 4) Lz (vs.map kyO)=kyL vs:=aAV vs []
def gZ (vs:List Int) (k:Nat):Bool:=(vs.take k).any fun u=>decide (vs.getD k 0=u)
theorem aFK (v u:Int):aP (pre 4)[0] sId (kyV v) (kyV u)=decide (v=u):=by
 have h:aP (pre 4)[0] sId (kyV v) (kyV u)=decide (((1:Int),v,e0)=((1:Int),u,e0)):=rfl;rw[h,decide_eq_decide];constructor
 ·intro e;exact (Prod.mk.inj (Prod.mk.inj e).2).1
 rintro rfl;rfl
theorem aEg (v:Int) (us:List Int):fO (pre 4)[0] (kyV v) (us.map kyV)=us.any fun u=>decide (v=u):=by
 have h:fO (pre 4)[0] (kyV v) (us.map kyV)=(true&&(us.map kyV).any fun a=>aP (pre 4)[0] sId (kyV v) a):=rfl;rw[h,Bool.true_and,List.any_map]
 congr 1
 funext u
 exact aFK v u
theorem aFL (v:Int):aO (cN (pre 4)[0] (kyV v)) (pre 4)[0].cols.length=none:=by kernel_rfl
theorem aGU (v:Int) (As:List (List R1)):aO (eO (pre 4) As (pre 4)[0] (kyV v)) (pre 4)[0].cols.length=none:=by kernel_rfl
theorem aAW (v:Int) (As:List (List R1)) (B:List (List T3)):dG (pre 4) As (pre 4)[0] (kyV v) B=if fO (pre 4)[0] (kyV v) B=true then (8,sId) else (0,e0):=by
 unfold dG;rw[aFL v,aGU v As];rfl
theorem aAX (vs:List Int) (k:Nat):bN (kyR vs) k=(vs.take k).map kyV:=by
 unfold bN kyR;rw[<- List.map_take,List.map_map]
 have h:(vs.take k)=(vs.zipIdx.take k).map (·.1):=by
  rw[List.map_take,List.zipIdx_map_fst]
 rw[h,List.map_map];rfl
theorem aEh {vs:List Int} {k:Nat} (hk:k<(kyR vs).length):(kyR vs)[k]=((k:Int),kyV (vs.getD k 0)):=by
 have hk':k<vs.length:=by rw[uA] at hk;exact hk
 have h:(kyR vs)[k]?=some ((k:Int),kyV (vs.getD k 0)):=by
  unfold kyR;rw[List.getElem?_map,List.getElem?_zipIdx,List.getD_eq_getElem?_getD,qQq hk']
  simp
 rw[qQq hk] at h;exact Option.some.inj h
theorem aEi {vs:List Int} {k:Nat} (hk:k<vs.length) (As:List (List R1)):eT (pre 4) As (pre 4)[0] (kyR vs) k=gZ vs k:=by
 have hk':k<(kyR vs).length:=(by rw[uA];exact hk);unfold eT rowAt;rw[List.getD_eq_getElem?_getD,qQq hk',Option.getD_some,aEh hk',aAW,aAX,aEg];unfold gZ;cases (vs.take k).any fun u=>decide (vs.getD k 0=u) <;> rfl
def kyF (vs:List Int):Int×ByteArray×Int×ByteArray :=
 match aO (gZ vs) vs.length with
 | some k=>(8,aV,(k:Int),sId)
 | none=>(0,e0,0,e0)
theorem aFM {vs:List Int} (hv:vs.length<=30):bK (pre 4) ((kyL vs).map (·.2)) 0=match aO (gZ vs) vs.length with
 | some k=>(8,(k:Int),sId)
 | none=>(0,0,e0):=by
 have h:bK (pre 4) ((kyL vs).map (·.2)) 0=lW (pre 4) ((kyL vs).map (·.2)) (pre 4)[0] (kyR vs):=rfl;rw[h];unfold lW;have hl:=uA vs;rw[jV (by omega) (fun m _=>by have:=qF (A:=kyR vs) (c:=m);omega),if_pos rfl];cases hf:aO (gZ vs) vs.length with
 | none =>
  exact iV (fun m hm=>by
   rw[aEi (by omega)];unfold aO at hf;rw[List.find?_eq_none] at hf;simpa using hf m (List.mem_range.2 (by omega)))
 | some k =>
  obtain⟨h1,h2,h3⟩:=gX hf;have hk:k<(kyR vs).length:=(by omega);have e:=aAW (vs.getD k 0) ((kyL vs).map (·.2)) (bN (kyR vs) k);have hkey:fO (pre 4)[0] (kyV (vs.getD k 0)) (bN (kyR vs) k)=true:=(by rw[aAX,aEg];exact h2);rw[if_pos hkey] at e;have hw:=iU (ts:=pre 4) (As:=(kyL vs).map (·.2)) (t:=(pre 4)[0]) hk (by rw[aEh hk,e];decide) (fun m hm=>by rw[aEi (by omega)];exact h3 m hm);rw[hw,aEh hk,e]
theorem aEj {vs:List Int} (hv:vs.length<=30):bF (pre 4) ((kyL vs).map (·.2))=kyF vs:=by
 have h0:=aFM hv;unfold kyF;cases hf:aO (gZ vs) vs.length with
 | none =>
  rw[hf] at h0;refine iX (fun i hi=>?_)
  match i,hi with
  | 0,_=>rw[h0]
  | 1,_=>rfl
  | 2,_=>rfl
  | 3,_=>rfl
 | some k =>
  rw[hf] at h0;rw[iW (j:=0) (by decide) (by rw[h0];show (8:Int)≠0;decide) (fun i hi=>absurd hi (Nat.not_lt_zero i)),h0];rfl
