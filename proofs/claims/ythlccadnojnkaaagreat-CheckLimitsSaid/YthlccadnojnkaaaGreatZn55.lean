import Derived.Test.YthlccadnojnkaaaGreatZn49
namespace Go.Proofs.YthlccadnojnkaaaGreat
open Go.Proofs.Tryz
open Go Go.RowKit Go.Proofs Co Co.S
theorem Cj{w:World}{g:Nat}{a c:Int}{v u:UInt8}(h:w.heap[g]?=some (.cells #[.int .u8 a,.int .u8 c] 5))(b:(v.toNat:Int)=a)(d:(u.toNat:Int)=c):(convert 44 9 (.slice (some ⟨g,0,none⟩) 2 2)).run prog w=.ok (.string ⟨#[v,u]⟩) w:=by
 subst d b
 exact run_convert_bytes_back (P:=prog) w 44 9 5 ⟨g,0,none⟩ 2 [v,u] underlying44 underlying5 underlying9 (fun j e=>by
  rcases j with _|_|j
  ·exact aA h 0
  ·exact aA h 1
  simp at e;omega)
def AZ(B:Nat)(nm:ByteArray)(vals:List T3)(n:Nat):Par.VW:=⟨fun v w=>∃g cap,v=Au nm (.slice (some ⟨g,0,none⟩) n cap)/\ac w B 32 3 (.slice (some ⟨g,0,none⟩) n cap) n (cells3 vals),fun _ _ _⟨g,cap,h1,h2⟩ hb=>⟨g,cap,h1,h2.later hb⟩⟩
def CK(B:Nat)(nm:ByteArray)(vals:List T3)(n:Nat):Par.VW:=⟨fun v w=>∃g2 g cap,B<=g2/\v=.slice (some ⟨g2,0,none⟩) 1 1/\w.heap[g2]?=some (.cells #[.int .i64 1,.string nm,.int .i64 0,.string e0,.slice (some ⟨g,0,none⟩) n cap] 29)/\ac w B 32 3 (.slice (some ⟨g,0,none⟩) n cap) n (cells3 vals),fun _ _ _⟨g2,g,cap,h0,h1,h2,h3⟩ hb=>⟨g2,g,cap,h0,h1,aE hb h2,h3.later hb⟩⟩
theorem uX{w:World}{B g n:Nat}(b:ByteArray)(a:List T3)(j:Array Value)(k:w.heap[g]?=some (.cells j 32))(c:j.toList=cells3 a)(l:a.length=n)(m:0<n)(o:n<=1000)(p:B<=w.heap.size):Calls prog 14 #[.string b,.slice (some ⟨g,0,none⟩) n n] w fun e d=>∃v,e=.returned v/\(AZ B b a n).1 v d/\Below w.heap.size w d:=by
 subst l;have q:ac w 0 32 3 (.slice (some ⟨g,0,none⟩) a.length a.length) a.length (cells3 a):=ac.lit k c (dR a) (zh _) (by unfold maxLen;omega);refine(kM b (eb.jk q rfl) m o).mono ?_;rintro e d⟨g,f,rfl,h,i⟩;exact⟨_,rfl,⟨g,f,rfl,h.mono p⟩,i⟩
theorem uY{w:World}{b n c i j m l:Nat}{p:Option Addr}{f:List cx}{o:ByteArray}{a:List T3}{wr:World}(r:ef wr b (.slice p n c) f)(s:f.length=n)(q:Below wr.heap.size wr w)(d:b<=wr.heap.size)(t:wr.heap.size<=l)(k:w.heap[l]?=some (.cells #[.int .i64 1,.string o,.int .i64 0,.string e0,.slice (some ⟨i,0,none⟩) m j] 29))(u:ac w wr.heap.size 32 3 (.slice (some ⟨i,0,none⟩) m j) m (cells3 a))(v:a.length=m)(x:n+1<=1000000):∃g e h,(Builtin.append_ #[35,35] 35 #[.slice p n c,.slice (some ⟨l,0,none⟩) 1 1]).run prog w=.ok (.slice (some ⟨g,0,none⟩) (n+1) e) h/\ef h b (.slice (some ⟨g,0,none⟩) (n+1) e) (f++[pO o a])/\Below b wr h:=by
 subst v;obtain⟨g,e,h,y,z,A⟩:=oD (r.later q) s (Dg (o1:=pO o a) (v1:=.slice (some ⟨i,0,none⟩) a.length j) k rfl (zw d t) (u.mono d)) rfl (by decide) x (zw d q.size);exact⟨g,e,h,y,z,(q.mono d).trans A⟩
theorem qF{K:Nat->Prop}{i j:World}{d b n f c:Nat}{k:List Nat}{p:Option Addr}{a:List cx}(h:PD K i j d b (pre 4) k Lz Lz)(l:a.length=n)(r:ef i c (.slice p n f) a)(s:∀q,c<=q->q<i.heap.size->K q)(v:n<=590)(g:∀o∈a,ir o){R:List PT}(t:en (pre 4) Lz a=R):Calls prog 17 #[.pointer (some ⟨d,0,none⟩),.pointer (some ⟨b,0,none⟩),.slice p n f] j fun e u=>e=.returned (.tuple #[])/\PD K i u d b (pre 4) k R R:=by
 subst l t;exact jN (m:=0) h r s (cO 4 (by decide)) (bQ 4) aO cL cD cD (by omega) g
