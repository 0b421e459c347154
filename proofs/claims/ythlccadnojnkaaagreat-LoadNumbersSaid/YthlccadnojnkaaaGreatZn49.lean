import Derived.Test.YthlccadnojnkaaaGreatZn48
namespace Go.Proofs.YthlccadnojnkaaaGreat
open Go.Proofs.Tryz
open Go Go.RowKit Go.Proofs Co Co.S
theorem pA{L L2:List cx}{sv sv2:List Value}(h:sv.length=L.length):fi (L++L2) (sv++sv2)=fi L sv++fi L2 sv2:=by
 unfold fi;rw[List.zip_append h.symm,List.flatMap_append]
theorem yM:∀{L:List cx} {sv:List Value},(∀v∈sv,v.oneCell'=true)->∀u∈fi L sv,u.oneCell'=true:=fun h u a=>by
 unfold fi at a;rw[List.mem_flatMap]at a;obtain⟨⟨o,v⟩,b,c⟩:=a;exact C7 o v (h v (List.of_mem_zip b).2) u c
theorem oD{y:World}{base n c k c2 g0:Nat}{p:Option Addr}{ops us:List cx}(h:ef y base (.slice p n c) ops)(hn:ops.length=n)(hu:ef y base (.slice (some ⟨g0,0,none⟩) k c2) us)(r:us.length=k)(h0:0<k)(hm:n+k<=1000000)(hb:base<=y.heap.size):∃g a d,(Builtin.append_ #[35,35] 35 #[.slice p n c,.slice (some ⟨g0,0,none⟩) k c2]).run prog y=.ok (.slice (some ⟨g,0,none⟩) (n+k) a) d/\ef d base (.slice (some ⟨g,0,none⟩) (n+k) a) (ops++us)/\Below base y d:=by
 subst hn r;obtain⟨sv,s,t,J⟩:=h;obtain⟨b,L,E,F⟩:=hu
 have i:∀v∈b,v.oneCell'=true:=fun v M=>by
  obtain⟨j,l,rfl⟩:=xz M;obtain⟨S,f,o⟩:=F j (by omega);rw[z6 l]at f;cases f;obtain⟨U,V,e,_,_⟩:=ac.isslice o;rw[e];rfl
 obtain⟨N,w,x,z,A⟩:=info_parts DM;obtain⟨g,a,d,O,Q,G,W⟩:=aY (P:=prog) y base 35 35 29 N _ 5 _ underlying35 w x z A rfl (by decide) t ⟨g0,0,none⟩ us.length c2 (fi us b) E.1 (fun j u l=>by rw[Addr.add_lit,xq];exact E.cell l) (yM i) h0 (by unfold maxLen;omega) (by omega) hb
 have q:∀{v:Value} {m:Nat} {xs:List Value},ac y base 32 3 v m xs->ac d base 32 3 v m xs:=fun B=>B.ma G (fun k R r H=>by
  obtain⟨_,I,e⟩:=ac.block t k r;rw[e]at H;cases H)
 refine⟨g,a,d,O,⟨sv++b,by rw[y8,y8,s,L],?_,fun j l=>?_⟩,eM (n:=base) t G (zm _) hb⟩
 ·rw[pA s,y8];exact Q
 by_cases e:j<ops.length
 ·obtain⟨v,f,o⟩:=J j e;refine⟨v,by rw[wf (by omega)];exact f,?_⟩;rw[xc e];exact q o
 rw[y8]at l;obtain⟨v,f,o⟩:=F (j-ops.length) (by omega);refine⟨v,by rw[ye (by omega),s];exact f,?_⟩;rw[vu (by omega)];exact q o
theorem cR(nm:ByteArray)(vals:List T3)(n:Nat)(cs:Array Value)(hcs:cs.toList=cells3 vals)(hn:vals.length=n)(h0:0<n)(h1:n<=1000)(w1:World):Calls prog 14 #[.string nm,.slice (some ⟨w1.heap.size,0,none⟩) n n] (w1.alloc (.cells cs 32)) fun e c=>∃g a,e=.returned (Au nm (.slice (some ⟨g,0,none⟩) n a))/\ac c w1.heap.size 32 3 (.slice (some ⟨g,0,none⟩) n a) n (cells3 vals)/\Below w1.heap.size w1 c:=by
 subst hn;have k:=z7 w1 (.cells cs 32);have b:=aD w1 (.cells cs 32);have h:ac (w1.alloc (.cells cs 32)) w1.heap.size 32 3 (.slice (some ⟨w1.heap.size,0,none⟩) vals.length vals.length) vals.length (cells3 vals):=ac.lit k hcs (dR vals) (zm _) (by unfold maxLen;omega);refine(kM nm (eb.jk h rfl) h0 h1).mono ?_;rintro e c⟨g,a,rfl,d,f⟩;exact⟨g,a,rfl,d.mono b.size,aB b f⟩
abbrev sC:ByteArray:=⟨#[99]⟩
abbrev sZ:ByteArray:=⟨#[122]⟩
abbrev sE:ByteArray:=⟨#[101]⟩
abbrev pO(nm:ByteArray)(vals:List T3):cx:=⟨1,nm,0,e0,vals⟩
abbrev qq(n1 n2:ByteArray)(v1 v2:Value):Array Value:=#[.int .i64 1,.string n1,.int .i64 0,.string e0,v1,.int .i64 1,.string n2,.int .i64 0,.string e0,v2]
theorem GB{wr w:World}{base n c k1 k2 g1 g2 m1 m2:Nat}{p:Option Addr}{ops:List cx}{n1 n2:ByteArray}{l1 l2:List T3}(ho:ef wr base (.slice p n c) ops)(hn:ops.length=n)(hb:Below wr.heap.size wr w)(hle:base<=w.heap.size)(hle2:base<=wr.heap.size)(h1:ac w wr.heap.size 32 3 (.slice (some ⟨g1,0,none⟩) m1 k1) l1.length (cells3 l1))(h2:ac w wr.heap.size 32 3 (.slice (some ⟨g2,0,none⟩) m2 k2) l2.length (cells3 l2))(hm:n+2<=1000000):∃g a d,(Builtin.append_ #[35,35] 35 #[.slice p n c,.slice (some ⟨w.heap.size,0,none⟩) 2 2]).run prog (w.alloc (.cells (qq n1 n2 (.slice (some ⟨g1,0,none⟩) m1 k1) (.slice (some ⟨g2,0,none⟩) m2 k2)) 29))=.ok (.slice (some ⟨g,0,none⟩) (n+2) a) d/\ef d base (.slice (some ⟨g,0,none⟩) (n+2) a) (ops++[pO n1 l1,pO n2 l2])/\Below base wr d:=by
 have b:=aD w (.cells (qq n1 n2 (.slice (some ⟨g1,0,none⟩) m1 k1) (.slice (some ⟨g2,0,none⟩) m2 k2)) 29);have k:=z7 w (.cells (qq n1 n2 (.slice (some ⟨g1,0,none⟩) m1 k1) (.slice (some ⟨g2,0,none⟩) m2 k2)) 29);have e:ef (w.alloc (.cells (qq n1 n2 (.slice (some ⟨g1,0,none⟩) m1 k1) (.slice (some ⟨g2,0,none⟩) m2 k2)) 29)) base (.slice (some ⟨w.heap.size,0,none⟩) 2 2) [pO n1 l1,pO n2 l2]:=fJ (v1:=.slice (some ⟨g1,0,none⟩) m1 k1) (v2:=.slice (some ⟨g2,0,none⟩) m2 k2) k rfl hle ((h1.mono hle2).later b) ((h2.mono hle2).later b);obtain⟨g,a,d,f,h,i⟩:=oD ((ho.later hb).later b) hn e rfl (by decide) hm (zw hle b.size);exact⟨g,a,d,f,h,((aB hb b).mono hle2).trans i⟩
theorem dL{wr w:World}{base n c k1 g1 m1:Nat}{p:Option Addr}{ops:List cx}{n1:ByteArray}{l1:List T3}(ho:ef wr base (.slice p n c) ops)(hn:ops.length=n)(hb:Below wr.heap.size wr w)(hle2:base<=wr.heap.size)(h1:ac w wr.heap.size 32 3 (.slice (some ⟨g1,0,none⟩) m1 k1) l1.length (cells3 l1))(hm:n+1<=1000000):∃g a d,(Builtin.append_ #[35,35] 35 #[.slice p n c,.slice (some ⟨w.heap.size,0,none⟩) 1 1]).run prog (w.alloc (.cells #[.int .i64 1,.string n1,.int .i64 0,.string e0,.slice (some ⟨g1,0,none⟩) m1 k1] 29))=.ok (.slice (some ⟨g,0,none⟩) (n+1) a) d/\ef d base (.slice (some ⟨g,0,none⟩) (n+1) a) (ops++[pO n1 l1])/\Below base wr d:=by
 have b:=aD w (.cells #[.int .i64 1,.string n1,.int .i64 0,.string e0,.slice (some ⟨g1,0,none⟩) m1 k1] 29);have k:=z7 w (.cells #[.int .i64 1,.string n1,.int .i64 0,.string e0,.slice (some ⟨g1,0,none⟩) m1 k1] 29);have e:=zw hle2 hb.size;have f:ef (w.alloc (.cells #[.int .i64 1,.string n1,.int .i64 0,.string e0,.slice (some ⟨g1,0,none⟩) m1 k1] 29)) base (.slice (some ⟨w.heap.size,0,none⟩) 1 1) [pO n1 l1]:=Dg (v1:=.slice (some ⟨g1,0,none⟩) m1 k1) k rfl e ((h1.mono hle2).later b);obtain⟨g,a,d,h,i,j⟩:=oD ((ho.later hb).later b) hn f rfl (by decide) hm (zw e b.size);exact⟨g,a,d,h,i,((aB hb b).mono hle2).trans j⟩
