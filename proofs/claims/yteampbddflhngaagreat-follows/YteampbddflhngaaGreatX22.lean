import Derived.Laws.Cover3
import Derived.Test.YteampbddflhngaaGreatX19
namespace Go.Proofs.YteampbddflhngaaGreat
set_option linter.all false
set_option maxRecDepth 100000
set_option maxHeartbeats 2000000
open Go.RowKit
section
variable {lo:Nat}{s w:World}
def Q9(lo:Nat)(s w:World):Prop:=∀b,lo<=b->b<s.heap.size->w.heap[b]?=s.heap[b]?
theorem py{e:TypeId}{a:Nat}{v:Value}{n:Nat}{f:List Value}(h:s.ownsRow lo e a v n f)(hs:Q9 lo s w):w.ownsRow lo e a v n f:=by
 obtain⟨m,b⟩:=h;refine⟨m,?_⟩;rcases b with b|⟨g,d,c,k,i,j,l⟩
 ·exact zg b
 ·refine ze ⟨g,d,c,k,i,?_,l⟩;rw[hs g i (kw.1 j).1];exact j
theorem Py.same{b:Nat}{c:Array Value}{T:TypeId}(h:Py s b c T)(a:lo<=b)(hs:Q9 lo s w):Py w b c T:=by
 have:=h.lt;unfold Py at *;rw[hs b a this];exact h
theorem P7.same{v:Value}{l:List ByteArray}(h:P7 lo s v l)(hs:Q9 lo s w):P7 lo w v l:=py h hs
theorem PX.same{s w:World}{v:Value}{l:List zj}(h:PX lo s v l)(hs:Q9 lo s w):PX lo w v l:=by
 obtain⟨b,c,a⟩:=h;exact⟨b,py c hs,a.mono fun _ _ q=>q.same hs⟩
theorem Qa.same{T:TypeId}{s w:World}{v:Value}{l:List zc}(h:Qa lo T s v l)(hs:Q9 lo s w):Qa lo T w v l:=by
 obtain⟨b,c,a⟩:=h;exact⟨b,py c hs,a.mono (fun _ _ q=>q.same hs) (fun _ _ q=>q.same hs)⟩
theorem ki.same{s w:World}{pb:Nat}{cs:List zc}{t:List zh}(h:ki lo s pb cs t)(hs:Q9 lo s w):ki lo w pb cs t:=by
 obtain⟨a,v,c,d,b,e⟩:=h;exact⟨a,v,c,d.same a hs,b.same hs,py e hs⟩
theorem fd.same{s w:World}{pb:Nat}{cs:List zc}{t:List zh}(h:fd lo s pb cs t)(hs:Q9 lo s w):fd lo w pb cs t:=by
 obtain⟨a,d,f,e,g,b,i,c⟩:=h;exact⟨a,d,f,e,g.same a hs,b.same hs,i.same hs,py c hs⟩
theorem ki.low{a b:Nat}{w:World}{pb:Nat}{cs:List zc}{t:List zh}(h:ki b w pb cs t)(c:a<=b):ki a w pb cs t:=by
 obtain⟨i,v,e,f,d,g⟩:=h;exact⟨by omega,v,e,f,d.low c,yq g c⟩
theorem fd.low{a b:Nat}{w:World}{pb:Nat}{cs:List zc}{t:List zh}(h:fd b w pb cs t)(c:a<=b):fd a w pb cs t:=by
 obtain⟨l,f,i,g,j,d,k,e⟩:=h;exact⟨by omega,f,i,g,j,d.low c,k.low c,yq e c⟩
structure wT (cs:List zc) (t:List zh):Prop where
 len:cs.length<=1000
 names:t.length<=1000
 fine:∀c∈cs,wW c/\vH c/\c.body.length<=6/\xf (zl c)<=1000
 rise:y5 (P2 t)
abbrev vd:=Nat×Nat×List zc×List zh
def dL(B:Nat)(w:World)(a:List Nat)(p:vd):Prop:=∃(lo:Nat) (s:World),B<=lo/\ki lo s p.1 p.2.2.1 p.2.2.2/\fd lo s p.2.1 p.2.2.1 p.2.2.2/\wT p.2.2.1 p.2.2.2/\Q9 lo s w/\s.heap.size<=w.heap.size/\∀b∈a,b<lo∨s.heap.size<=b
theorem dL.save{B:Nat}{i:World}{d a N:List Nat}{p:vd}(h:dL B w d p)(hs:zd N w i)(m:∀b∈N,b∈d)(f:∀b∈a,b∈d∨w.heap.size<=b):dL B i a p:=by
 obtain⟨lo,s,l,o,j,r,k,q,g⟩:=h;refine⟨lo,s,l,o,j,r,fun b c e=>?_,zT q hs.size,fun b n=>?_⟩
 ·rw[hs.block b (by omega) (fun f=>by have:=g b (m b f);omega)];exact k b c e
 ·rcases f b n with h|h
  ·exact g b h
  ·right;omega
theorem dL.new{B lo:Nat}{a:List Nat}{pb c:Nat}{cs:List zc}{t:List zh}(e:B<=lo)(g:ki lo w pb cs t)(d:fd lo w c cs t)(i:wT cs t)(f:∀b∈a,b<lo):dL B w a (pb,c,cs,t):=
 ⟨lo,w,e,g,d,i,fun _ _ _=>rfl,zf _,fun b h=>zg (f b h)⟩
def fw(ps:List vd):List Value:=ps.flatMap fun p=>[.pointer (some ⟨p.1,0,none⟩),.pointer (some ⟨p.2.1,0,none⟩)]
abbrev ow:=Nat×Nat×List ByteArray
def N9(a:List ow):List Value:=a.map fun x=>sl x.1 x.2.2.length
def O9(a:List ow):List Value:=a.map fun x=>sl x.2.1 x.2.2.length
def ME(a:List (Nat×Nat)):List Value:=a.map fun x=>sl x.1 x.2
def I0:ByteArray:=⟨#[109,105,110,101]⟩
def Ho(i h:Nat):Value×Value×Value:=(.bool false,.string I0,sl h (i+1))
structure TM where
 ps:List vd
 nr:Nat
 ls:List ow
 lits:List (Nat×Nat)
def em(f:Nat)(d a c e b:Value)(M:TM):List Nat:=
 f::(d.ownBlock.toList++a.ownBlock.toList++c.ownBlock.toList++e.ownBlock.toList++b.ownBlock.toList++M.ls.map (·.1)++M.ls.map (·.2.1)++M.lits.map (·.1))
def Rw(R:List Nat)(a:Value)(M:TM):List Nat:=R++(a.ownBlock.toList++(M.ls.map (·.1)++M.ls.map (·.2.1)))
structure RF (B:Nat) (w:World) (wb:Nat) (M:TM) (R:List Nat) (psv rowv lsv lwv litv:Value) (ys:List Value):Prop where
 low:B<=wb
 box:Py w wb #[psv,.slice none 0 0,.slice none 0 0,.slice none 0 0,.int .i64 0,.int .i64 0,.int .i64 0,.slice none 0 0,.bool true,rowv,lsv,lwv,.slice none 0 0,litv] 35
 ps:w.ownsRow B 40 2 psv M.ps.length (fw M.ps)
 row:w.ownsRow B 9 1 rowv M.nr ys
 ls:w.ownsRow B 30 1 lsv M.ls.length (N9 M.ls)
 lw:w.ownsRow B 30 1 lwv M.ls.length (O9 M.ls)
 lits:w.ownsRow B 91 1 litv M.lits.length (ME M.lits)
 res:∀b∈R,b<w.heap.size
 sep:∀b,lsv.ownBlock=some b->lwv.ownBlock≠some b
 apart:(Rw R rowv M).Nodup
 lists:∀x∈M.ls,P7 B w (sl x.1 x.2.2.length) x.2.2/\P7 B w (sl x.2.1 x.2.2.length) x.2.2/\x.2.2.length<=1000
 own:∀i (h:i<M.lits.length),∃hs:List Nat,hs.length=M.lits[i].2/\M.lits[i].2<=1000/\w.ownsRow B 90 3 (sl M.lits[i].1 M.lits[i].2) M.lits[i].2 (PO (hs.map (Ho i)))
 pairs:∀p∈M.ps,dL B w (R++em wb psv rowv lsv lwv litv M) p
theorem RF.lt{B:Nat}{w:World}{k:Nat}{M:TM}{R:List Nat}{g c f j d:Value}{l:List Value}(h:RF B w k M R g c f j d l):∀b∈em k g c f j d M,b<w.heap.size:=by
 intro b a;simp only[em,zu,zX,z9] at a;rcases a with rfl|((((((((a|a)|a)|a)|a)|⟨x,e,rfl⟩)|⟨x,e,rfl⟩)|⟨x,e,rfl⟩))
 ·exact h.box.lt
 ·exact yU h.ps (yw a)
 ·exact yU h.row (yw a)
 ·exact yU h.ls (yw a)
 ·exact yU h.lw (yw a)
 ·exact yU h.lits (yw a)
 ·exact yU (h.lists x e).1 rfl
 ·exact yU (h.lists x e).2.1 rfl
 ·obtain⟨i,n,rfl⟩:=vG e;obtain⟨o,_,_,m⟩:=h.own i n;exact yU m rfl
end
section
open Go.Proofs.Tryz
variable {lo:Nat}
def la(c:Int)(n:Nat):Nat:=if c<0 then(-(c+1)).toNat%n else c.toNat%n
theorem E4(c:Int){n:Nat}(a:0<n):la c n<n:=by unfold la;split<;>exact Nat.mod_lt _ a
theorem DW(w:World)(c:Int)(n:Nat)(j:0<n)(d:n<=281474976710656)(i:-9223372036854775808<=c/\c<=9223372036854775807):
  Calls prog 95 #[.int .i64 c,.int .i64 n] w fun e h=>e=.returned (.int .i64 (la c n:Int))/\h=w:=by
 obtain⟨g,f⟩:=i;by_cases b:c<0
 ·have a:Hid (-(c+1).tmod (n:Int)=(la c n:Int)):=by
   unfold la;rw[Hid,zb b,←Int.neg_tmod,Int.tmod_eq_emod_of_nonneg (by omega),Int.natCast_emod,Int.toNat_of_nonneg (by omega)]
  go_enter func95,ntmps95;go_wp2;exact zK (v:=.int .i64 (-(c+1).tmod (n:Int))) (by simp[results,results95,go_sem]) rfl ⟨by rw[a.out],rfl⟩
 ·have a:Hid (c%(n:Int)=(la c n:Int)):=by unfold la;rw[Hid,za b,Int.natCast_emod,Int.toNat_of_nonneg (by omega)]
  go_enter func95,ntmps95;go_wp2;exact zK (v:=.int .i64 (c%(n:Int))) (by simp[results,results95,go_sem]) rfl ⟨by rw[a.out],rfl⟩
end
section
variable {lo:Nat}
section
variable {P:Program} {ops:Array Oper} {o:Oper} {a:Act} {K:Act->World->Prop} {Q:Exit->Act->World->Prop}
end
theorem Cv(s:ByteArray):∀(n i:Nat) (l:List P4),PC n s i=some l->∀x∈l,x.2.size<=6:=by
 intro n;induction n with
 |zero=>intro i l h;simp[PC] at h;subst h;simp
 |succ n g=>
  intro i l h;by_cases a:i<s.size
  ·cases c:vW (P8 s i) with
   |true=>rw[sJ a c] at h;exact g _ _ h
   |false=>
    generalize e:yX (P8 s i) (P8 s (i+1))=k;by_cases b:k=0
    ·subst b;rw[sA a c e] at h;exact zB h (by simp)
    ·by_cases f:6<ym s i k-i
     ·rw[rC a c e f] at h;exact zB h (by simp)
     ·rw[tq a c e b f] at h;obtain⟨r,j,rfl⟩:=vE.1 h;intro x d;rcases zu.1 d with rfl|d
      ·rw[ByteArray.size_extract];omega
      ·exact g _ _ j x d
  ·rw[pu a] at h;simp at h;subst h;simp
theorem sw{a:zj}{l:List P4}(h:qe a l):∃y∈l,y.2=a.pred:=by
 cases h with
 |bare=>exact⟨_,pN,rfl⟩
 |args=>exact⟨_,pN,rfl⟩
theorem Dc{a:zj}{l:List P4}(h:kI a l):∃y∈l,y.2=a.pred:=by
 cases h with
 |qc h=>exact sw h
 |neg _ h=>obtain⟨y,b,e⟩:=sw h;exact⟨y,by simp[b],e⟩
theorem KE:∀{b:List zj} {l:List P4},gi b l->∀a∈b,∃y∈l,y.2=a.pred:=by
 intro b l h;induction h with
 |one h=>intro a c;simp at c;subst c;exact Dc h
 |more h _ _ f=>
  intro a c;rcases zu.1 c with rfl|c
  ·obtain⟨y,d,e⟩:=Dc h;exact⟨y,by simp[d],e⟩
  ·obtain⟨y,d,e⟩:=f a c;exact⟨y,by simp[d],e⟩
theorem Nf:∀{cs:List zc} {l:List P4},fc cs l->∀c∈cs,∀a∈zl c,∃y∈l,y.2=a.pred:=by
 intro cs l h;induction h with
 |nil=>intro c f;cases f
 |cons h _ _ i=>
  intro c f a d;rcases zu.1 f with rfl|f
  ·cases h with
   |fact h=>simp[zl] at d;subst d;obtain⟨y,b,e⟩:=sw h;exact⟨y,by simp[b],e⟩
   |rule h _ g=>
    simp only[zl] at d;rcases zu.1 d with rfl|d
    ·obtain⟨y,b,e⟩:=sw h;exact⟨y,by simp[b],e⟩
    ·obtain⟨y,b,e⟩:=KE g a d;exact⟨y,by simp[b],e⟩
  ·obtain⟨y,b,e⟩:=i c f a d;exact⟨y,by simp[b],e⟩
theorem Ba:∀{b:List zj} {l:zj},l∈b->l.args.length<=xf b
 |[],_,h=>by cases h
 |a::r,l,h=>by
  rcases zu.1 h with rfl|h
  ·simp[xf]
  ·have:=Ba h;simp[xf] at this ⊢;omega
theorem Nb{s:ByteArray}{cs:List zc}{t:List zh}(h:uc s=.ok (cs,t)):wT cs t:=by
 unfold uc at h;split at h
 ·cases h
 ·rename_i P;split at h
  ·cases h
  ·rename_i q d;split at h
   ·cases h
   ·rename_i a I;split at h
    ·cases h
    ·rename_i F;split at h
     ·cases h
     ·rename_i k w;split at h
      ·split at h
       ·simp only[Except.ok.injEq,yc] at h;obtain⟨rfl,rfl⟩:=h;have g:xJ q:=fun x H=>(nR d x H).1;have C:xa s.size s=some (zU q):=by rw[pA,d];rfl
        have r:uT (zU q)=some a:=by
         have:=ox s;rw[C,d] at this;simp only[Option.bind_some] at this;rw[this];exact I
        have b:=wQ (by omega) C r;have D:=(iy g a).1 r;have z:=(tQ w).2;have B:=rM (k.length+1) k a (rT z);have v:k.length<=1000:=by have:=sj _ _ _ w;have:=b.lits;simp only[kE] at *;omega
        refine⟨b.len,?_,fun c i=>?_,?_⟩
        ·have:=congrArg List.length B;simp[P2] at this;omega
        ·obtain⟨M,O,G,J⟩:=b.ok c i;have o:c.body.length<=6:=by
          false_or_by_contra
          rename_i N;apply F;rw[kT];refine⟨c,i,?_⟩;have K:6<c.body.length:=by omega
          unfold yE;simp[K]
         refine⟨⟨fun l j=>?_,by omega⟩,M,o,G⟩;obtain⟨y,u,e⟩:=Nf D c i l j;have p:=Cv s _ _ _ d y u;have m:=(nR d y u).2;refine⟨by rw[←e];exact p,by rw[←e];exact m,?_,fun A f=>?_⟩
         ·have:=Ba j;omega
         ·obtain⟨L,n,E⟩:=BE D c i l j A f;exact⟨J l j A f,by rw[←E];exact Cv s _ _ _ d L n⟩
        ·rw[B];exact z.rise
       ·cases h
      ·cases h
theorem D4:∀(ps:List vd) (k:Nat) (a:k<ps.length),(fw ps)[k*2]?=some (.pointer (some ⟨ps[k].1,0,none⟩))/\(fw ps)[k*2+1]?=some (.pointer (some ⟨ps[k].2.1,0,none⟩))
 |[],k,a=>by simp at a
 |p::r,0,_=>by simp[fw]
 |p::r,k+1,a=>by
  have:=D4 r k (by simpa using a);simp only[fw,uo] at this ⊢;rw[show(k+1)*2=k*2+1+1 from by omega,show k*2+1+1+1=k*2+1+1+1 from rfl];simpa using this
end
end Go.Proofs.YteampbddflhngaaGreat
