import Derived.Test.YthlccadnojnkaaaGreatZk48
namespace Go.Proofs.YthlccadnojnkaaaGreat
open Go Go.RowKit Go.Proofs Co Co.S
theorem pA {L L2:List OpX} {sv sv2:List Value} (h:sv.length=L.length):cellsO (L++L2) (sv++sv2)=cellsO L sv++cellsO L2 sv2:=by
 unfold cellsO;rw[List.zip_append h.symm,List.flatMap_append]
theorem yM:∀ {L:List OpX} {sv:List Value},(∀ v∈sv,v.oneCell'=true)->∀ u∈cellsO L sv,u.oneCell'=true:=fun h u hu=>by
 unfold cellsO at hu;rw[List.mem_flatMap] at hu;obtain⟨⟨o,v⟩,hz,hx⟩:=hu;exact aAp o v (h v (List.of_mem_zip hz).2) u hx
theorem oD {y:World} {base n c k c2 g0:Nat} {p:Option Addr} {ops us:List OpX} (h:OpsO y base (.slice p n c) ops) (hn:ops.length=n) (hu:OpsO y base (.slice (some ⟨g0,0,none⟩) k c2) us) (hk:us.length=k) (h0:0<k) (hm:n+k<=1000000) (hb:base<=y.heap.size) :
  ∃ g cap w',(Builtin.append_ #[35,35] 35 #[.slice p n c,.slice (some ⟨g0,0,none⟩) k c2]).run Tryz.prog y=.ok (.slice (some ⟨g,0,none⟩) (n+k) cap) w' /\
   OpsO w' base (.slice (some ⟨g,0,none⟩) (n+k) cap) (ops++us)/\Below base y w':=by
 subst hn hk;obtain⟨sv,h1,h2,h3⟩:=h;obtain⟨sv2,u1,u2,u3⟩:=hu
 have hone:∀ v∈sv2,v.oneCell'=true:=fun v hv=>by
  obtain⟨j,hj,rfl⟩:=List.getElem_of_mem hv;obtain⟨v',e1,e2⟩:=u3 j (by omega);rw[List.getElem?_eq_getElem hj] at e1;cases e1;obtain⟨p',c',e,_,_⟩:=HRow.isslice e2;rw[e];rfl
 obtain⟨i0,hi0,hz0,hz1,hz2⟩:=info_parts aDG;obtain⟨g,cap,w',hr,k1,k2,k3⟩:=aY (P:=Tryz.prog) y base 35 35 29 i0 _ 5 _ Tryz.underlying35 hi0 hz0 hz1 hz2 rfl (by decide) h2 ⟨g0,0,none⟩ us.length c2 (cellsO us sv2) u2.1 (fun j u hj=>by rw[Addr.add_lit,Nat.zero_add];exact u2.cell hj) (yM hone) h0 (by unfold maxLen;omega) (by omega) hb
 have hap:∀ {v:Value} {m:Nat} {xs:List Value},HRow y base 32 3 v m xs->HRow w' base 32 3 v m xs:=fun hr'=>hr'.by_other k2 (fun k cur hk hc=>by
  obtain⟨_,cur2,e⟩:=HRow.block h2 k hk;rw[e] at hc;cases hc)
 refine⟨g,cap,w',hr,⟨sv++sv2,by rw[List.length_append,List.length_append,h1,u1],?_,fun j hj=>?_⟩,eM (n:=base) h2 k2 (Nat.le_refl _) hb⟩
 ·rw[pA h1,List.length_append];exact k1
 by_cases e:j<ops.length
 ·obtain⟨v,e1,e2⟩:=h3 j e;refine⟨v,by rw[List.getElem?_append_left (by omega)];exact e1,?_⟩;rw[List.getElem_append_left e];exact hap e2
 rw[List.length_append] at hj;obtain⟨v,e1,e2⟩:=u3 (j-ops.length) (by omega);refine⟨v,by rw[List.getElem?_append_right (by omega),h1];exact e1,?_⟩;rw[List.getElem_append_right (by omega)];exact hap e2
theorem cR (nm:ByteArray) (vals:List T3) (n:Nat) (cs:Array Value) (hcs:cs.toList=cells3 vals) (hn:vals.length=n) (h0:0<n) (h1:n<=1000) (w1:World):Calls Tryz.prog 14 #[.string nm,.slice (some ⟨w1.heap.size,0,none⟩) n n] (w1.alloc (.cells cs 32)) fun e w'=>∃ g cap,e=.returned (putV nm (.slice (some ⟨g,0,none⟩) n cap))/\HRow w' w1.heap.size 32 3 (.slice (some ⟨g,0,none⟩) n cap) n (cells3 vals)/\Below w1.heap.size w1 w':=by
 subst hn;have k:=heap_alloc_new w1 (.cells cs 32);have b:=aD w1 (.cells cs 32);have hr:HRow (w1.alloc (.cells cs 32)) w1.heap.size 32 3 (.slice (some ⟨w1.heap.size,0,none⟩) vals.length vals.length) vals.length (cells3 vals):=HRow.lit k hcs (dR vals) (Nat.le_refl _) (by unfold maxLen;omega);refine (kM nm (InV.of_row hr rfl) h0 h1).mono ?_;rintro e w' ⟨g,cap,rfl,hr',hb'⟩;exact⟨g,cap,rfl,hr'.mono b.size,aB b hb'⟩
abbrev sC:ByteArray:=⟨#[99]⟩
abbrev sZ:ByteArray:=⟨#[122]⟩
abbrev sE:ByteArray:=⟨#[101]⟩
abbrev pO (nm:ByteArray) (vals:List T3):OpX:=⟨1,nm,0,e0,vals⟩
abbrev cOps2 (n1 n2:ByteArray) (v1 v2:Value):Array Value:=#[.int .i64 1,.string n1,.int .i64 0,.string e0,v1,.int .i64 1,.string n2,.int .i64 0,.string e0,v2]
theorem aEa {wr w:World} {base n c k1 k2 g1 g2 m1 m2:Nat} {p:Option Addr} {ops:List OpX} {n1 n2:ByteArray} {l1 l2:List T3} (ho:OpsO wr base (.slice p n c) ops) (hn:ops.length=n) (hb:Below wr.heap.size wr w) (hle:base<=w.heap.size) (hle2:base<=wr.heap.size)
  (h1:HRow w wr.heap.size 32 3 (.slice (some ⟨g1,0,none⟩) m1 k1) l1.length (cells3 l1)) (h2:HRow w wr.heap.size 32 3 (.slice (some ⟨g2,0,none⟩) m2 k2) l2.length (cells3 l2)) (hm:n+2<=1000000) :
  ∃ g cap w',(Builtin.append_ #[35,35] 35 #[.slice p n c,.slice (some ⟨w.heap.size,0,none⟩) 2 2]).run Tryz.prog (w.alloc (.cells (cOps2 n1 n2 (.slice (some ⟨g1,0,none⟩) m1 k1) (.slice (some ⟨g2,0,none⟩) m2 k2)) 29))=.ok (.slice (some ⟨g,0,none⟩) (n+2) cap) w' /\
   OpsO w' base (.slice (some ⟨g,0,none⟩) (n+2) cap) (ops++[pO n1 l1,pO n2 l2])/\Below base wr w':=by
 have b:=aD w (.cells (cOps2 n1 n2 (.slice (some ⟨g1,0,none⟩) m1 k1) (.slice (some ⟨g2,0,none⟩) m2 k2)) 29);have k:=heap_alloc_new w (.cells (cOps2 n1 n2 (.slice (some ⟨g1,0,none⟩) m1 k1) (.slice (some ⟨g2,0,none⟩) m2 k2)) 29);have hu:OpsO (w.alloc (.cells (cOps2 n1 n2 (.slice (some ⟨g1,0,none⟩) m1 k1) (.slice (some ⟨g2,0,none⟩) m2 k2)) 29)) base (.slice (some ⟨w.heap.size,0,none⟩) 2 2) [pO n1 l1,pO n2 l2]:=fJ (v1:=.slice (some ⟨g1,0,none⟩) m1 k1) (v2:=.slice (some ⟨g2,0,none⟩) m2 k2) k rfl hle ((h1.mono hle2).later b) ((h2.mono hle2).later b);obtain⟨g,cap,w',q1,q2,q3⟩:=oD ((ho.later hb).later b) hn hu rfl (by decide) hm (Nat.le_trans hle b.size);exact⟨g,cap,w',q1,q2,((aB hb b).mono hle2).trans q3⟩
theorem dL {wr w:World} {base n c k1 g1 m1:Nat} {p:Option Addr} {ops:List OpX} {n1:ByteArray} {l1:List T3} (ho:OpsO wr base (.slice p n c) ops) (hn:ops.length=n) (hb:Below wr.heap.size wr w) (hle2:base<=wr.heap.size)
  (h1:HRow w wr.heap.size 32 3 (.slice (some ⟨g1,0,none⟩) m1 k1) l1.length (cells3 l1)) (hm:n+1<=1000000) :
  ∃ g cap w',(Builtin.append_ #[35,35] 35 #[.slice p n c,.slice (some ⟨w.heap.size,0,none⟩) 1 1]).run Tryz.prog (w.alloc (.cells #[.int .i64 1,.string n1,.int .i64 0,.string e0,.slice (some ⟨g1,0,none⟩) m1 k1] 29))=.ok (.slice (some ⟨g,0,none⟩) (n+1) cap) w' /\
   OpsO w' base (.slice (some ⟨g,0,none⟩) (n+1) cap) (ops++[pO n1 l1])/\Below base wr w':=by
 have b:=aD w (.cells #[.int .i64 1,.string n1,.int .i64 0,.string e0,.slice (some ⟨g1,0,none⟩) m1 k1] 29);have k:=heap_alloc_new w (.cells #[.int .i64 1,.string n1,.int .i64 0,.string e0,.slice (some ⟨g1,0,none⟩) m1 k1] 29);have hle:=Nat.le_trans hle2 hb.size;have hu:OpsO (w.alloc (.cells #[.int .i64 1,.string n1,.int .i64 0,.string e0,.slice (some ⟨g1,0,none⟩) m1 k1] 29)) base (.slice (some ⟨w.heap.size,0,none⟩) 1 1) [pO n1 l1]:=aDL (v1:=.slice (some ⟨g1,0,none⟩) m1 k1) k rfl hle ((h1.mono hle2).later b);obtain⟨g,cap,w',q1,q2,q3⟩:=oD ((ho.later hb).later b) hn hu rfl (by decide) hm (Nat.le_trans hle b.size);exact⟨g,cap,w',q1,q2,((aB hb b).mono hle2).trans q3⟩
