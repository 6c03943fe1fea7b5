import Derived.Test.YteampbddflhngaaGreatZ09
namespace Go.Proofs.YteampbddflhngaaGreat
set_option linter.all false
set_option maxRecDepth 100000
set_option maxHeartbeats 8000000
open Go.Proofs.Tryz Go.RowKit
section
variable {lo:Nat}
theorem Qe:(prog.info? 165).map (fun i=>(i.zero,i.size,i.bytes))=some (some (.agg #[ι 0,ι 0,ι 0]),3,24):=by kernel_rfl
def jG(rs:List zm):List Value:=rs.flatMap (·.map Rj)
def QM(lo:Nat)(w:World)(v:Value)(rs:List zm):Prop:=w.ownsRow lo 165 3 v rs.length (jG rs)/\∀r∈rs,r.length=3
def uX(B:Nat)(w:World)(c tb:Nat)(row:zm)(a:List zm):Prop:=∃(x y z:Nat) (b:Value),row=[x,y,z]/\B<=c/\Q6 w c #[(π tb),ι x,ι y,ι z,b] 223/\QM B w b a
theorem tu{T:zi}{a f v:Nat}(h:yz T a f=some v):v<T.qf:=by
 unfold yz at h;split at h
 ·simp only at h;split at h
  ·cases h
  ·simp only[zt] at h;omega
 ·cases h
theorem lX(T:zi):∀(n a level f:Nat) (row:zm) (b:List zm) (c:zm×List zm),xE T n a level f row b=some c->b.length<=c.2.length
 |0,_,_,_,_,_,_,h=>by simp[xE] at h
 |n+1,a,level,f,row,b,c,h=>by
  unfold xE at h;split at h
  ·simp at h;subst h;simp
  ·rename_i v j;simp only at h;split at h
   ·have:=lX T n _ _ _ _ _ _ h;simp at this;omega
   ·split at h
    ·exact lX T n _ _ _ _ _ _ h
    ·split at h
     ·cases h
     ·rename_i e d g;have i:=lX T n _ _ _ _ _ _ g;have k:=lX T n _ _ _ _ _ _ h;simp at i;omega
theorem La(c:World)(tb:Nat)(T:zi)(fp:List Nat)(ht:zY lo c tb T fp)(d n:Nat)(ih:(∀m,m<n->∀(w:World) (a level:Nat) (row:zm) (h:List zm) (g:zm×List zm),xE T m a level 0 row h=some g->level<3->g.2.length<=1048576->μ c w->uX c.heap.size w d tb row h->Calls prog 127 #[(π d),ι a,ι level] w fun e j=>e=ε (.tuple #[])/\uX c.heap.size j d tb g.1 g.2/\μ c j))(w:World)(a:Nat)(row:zm)(h:List zm)(g:zm×List zm)(P:xE T n a 0 0 row h=some g)(a0:g.2.length<=1048576)(U:μ c w)(I:uX c.heap.size w d tb row h):
  Calls prog 127 #[(π d),ι a,ι 0] w fun e j=>e=ε (.tuple #[])/\uX c.heap.size j d tb g.1 g.2/\μ c j:=by
 have HI:=Q5 ih;clear ih;have HL:Hid (∀W f,μ c W->Calls prog 167 #[(π tb),ι a,ι ((f:Nat):Int)] W fun e j=>e=ε (.tuple #[ι (((yz T a f).getD 0:Nat):Int),.bool (yz T a f).isSome])/\j=W):=fun W f hW=>r9 W tb T fp a f (ht.below hW);have HD:Hid (∀W v,μ c W->Calls prog 130 #[(π tb),ι a,ι ((v:Nat):Int)] W fun e j=>e=ε (.tuple #[ι (((zG T a v).getD 0:Nat):Int),.bool (zG T a v).isSome])/\j=W):=fun W v hW=>n9 W tb T fp a v (ht.below hW);have aA:T.ql<=3:=by obtain⟨nv,ns,h1,_⟩:=ht;exact h1.deep
 have aF:T.qf<=1000:=by obtain⟨nv,ns,h1,_⟩:=ht;exact h1.wide
 have B:∃nv,Q6 c tb #[ι T.qf,ι T.ql,nv,ι T.count] 229:=by obtain⟨nv,ns,h1,_⟩:=ht;exact⟨nv,h1.box⟩
 obtain⟨nv,B⟩:=B;clear ht;have aj:=Q5 I;have Q:=Q5 P;obtain⟨x,y,z,rv,am,t,s,au,ay⟩:=I;clear am au ay P;obtain⟨L,N,X⟩:=s.boxed;go_enter func127,ntmps127;go_wp2_with (go_at_call 167;refine(HL.out w 0 U).mono ?_;rintro e j ⟨rfl,o⟩;obtain rfl:=o.symm;clear o)
 clear L N X s;go_loopg [6,7] n (fun k v6 v7 wr=>∃(f:Nat) (H:zm) (b:List zm),v6=ι (((yz T a f).getD 0:Nat):Int)/\v7=.bool (yz T a f).isSome/\Hid (uX c.heap.size wr d tb H b)/\Hid (xE T k a 0 f H b=some g)/\k<=n/\μ c wr)
 case atStart=>exact⟨0,row,h,rfl,rfl,aj,Q,zg _,U⟩
 case round=>
  clear aj Q U t;obtain⟨f,H,b,rfl,rfl,Y,HQ,aB,M⟩:=hrel;have ax:=Y.out;obtain⟨x,y,z,rv,S,t,s,A,ac⟩:=ax;subst S;obtain⟨L,N,X⟩:=s.boxed;cases gk with
  |zero=>have:=HQ.out;simp[xE] at this
  |succ m=>
   have D:=HQ.out;unfold xE at D;cases hl:yz T a f with
   |none=>
    rw[hl] at D;simp only[zt] at D;have HE:Hid (g=([x,y,z],b)):=D.symm;clear D hl HQ;simp only[gE,gD];go_wp2;go_end0
    exact⟨rfl,by rw[HE.out];exact Y.out,M⟩
   |some v=>
    rw[hl] at D;simp only at D;have aC:v<=1000:=by have:=tu hl;omega
    clear hl HQ;simp only[ur,jV];have af:Hid (∀W,μ c W->Calls prog 167 #[(π tb),ι a,ι ((v:Int)+1)] W fun e j=>e=ε (.tuple #[ι (((yz T a (v+1)).getD 0:Nat):Int),.bool (yz T a (v+1)).isSome])/\j=W):=fun W hW=>by
     have q:=HL.out W (v+1) hW;rw[show((v+1:Nat):Int)=(v:Int)+1 from by omega] at q;exact q
    have l:=s.set 1 (ι v);simp at l;have ah:=B.below M;obtain⟨av,ap,aw⟩:=ah.boxed;have a8:d≠tb:=(fun e=>by have:=B.lt;omega);by_cases hd:T.ql<=1
    ·rw[zc (by omega)] at D;have J:Hid (xE T m a 0 (v+1) [v,y,z] (b++[[v,y,z]])=some g):=D;have Z:=lX T m _ _ _ _ _ _ D;simp at Z;clear D HI HD HL;obtain⟨i0,hi,an,az,aq⟩:=info_parts Qe;obtain⟨ao,ak,rfl⟩:=zp A;have u:(wr.setCell ⟨d,1,none⟩ (ι v)).ownsRow c.heap.size 165 3 (.slice ao b.length ak) b.length (jG b):=xO A ((QH.refl d wr).setCell 1 _) s (by decide);have F:μ c (wr.setCell ⟨d,1,none⟩ (ι v)):=M.setCell (p:=⟨d,1,none⟩) t _;have ar:=F.size;go_wp2;clear L N s A av ap aw ah Y X;generalize wr.setCell ⟨d,1,none⟩ (ι v)=wS at *;obtain⟨L,N,a1⟩:=l.boxed;go_region_law (refine dF wS _ [ι v,ι y,ι z] 165 rfl (.tmp 42) (.tmp 47) 161 rfl c.heap.size 165 i0 _ 3 24 underlying161 hi an az aq rfl (by decide) (.slice ao b.length ak) b.length (jG b) (by simp[Act.eval]) u (by exact(by go_grown)) wS.heap.size 1 (by simp[Act.eval]) (by exact Q6.drew (Q6.new _ _ _)) rfl (by simp[Value.oneCell']) (by omega) (by omega) (by omega) ?_;intro v' w2 ag ab a4 aG a5;obtain⟨C,i,rfl⟩:=zp ag;have G:=l.save ab (qB u l (by decide));obtain⟨a7,aE,aD⟩:=G.boxed)
     all_goals
      have V:QM c.heap.size (w2.setCell ⟨d,4,none⟩ (.slice C (b.length+1) i)) (.slice C (b.length+1) i) (b++[[v,y,z]]):=by
       refine⟨?_,fun r hr=>?_⟩
       ·have:=xO ag ((QH.refl d w2).setCell 4 (.slice C (b.length+1) i)) G (by decide);simpa [jG,Rj] using this
       ·rcases zI.1 hr with q|q
        ·exact ac r q
        ·simp at q;rw[q];rfl
      have O:=G.set 4 (.slice C (b.length+1) i);simp at O;have aa:μ c (w2.setCell ⟨d,4,none⟩ (.slice C (b.length+1) i)):=(F.trans (ab.below (fun x hx=>yW u (yt hx)) ar)).setCell (p:=⟨d,4,none⟩) t _;have E:Hid (uX c.heap.size (w2.setCell ⟨d,4,none⟩ (.slice C (b.length+1) i)) d tb [v,y,z] (b++[[v,y,z]])):=⟨_,_,_,_,rfl,t,O,V⟩;go_wp2_with (go_at_call 167;refine(af.out _ (by exact aa)).mono ?_;rintro e j ⟨rfl,o⟩;obtain rfl:=o.symm)
      go_roundg m
      case measure=>omega
      case rel=>exact⟨v+1,_,_,rfl,rfl,E,J,by omega,aa⟩
    ·have J:=D;rw[za (by omega),za (by omega)] at J;have F:μ c (wr.setCell ⟨d,1,none⟩ (ι v)):=M.setCell (p:=⟨d,1,none⟩) t _;have ad:uX c.heap.size (wr.setCell ⟨d,1,none⟩ (ι v)) d tb [v,y,z] b:=⟨_,_,_,rv,rfl,t,l,xO A ((QH.refl d wr).setCell 1 _) s (by decide),ac⟩;cases K:xE T m ((zG T a v).getD 0) 1 0 [v,y,z] b with
     |none=>rw[show [x,y,z].set 0 v=[v,y,z] from rfl] at J;rw[K] at J;cases J
     |some rr=>
      rw[show [x,y,z].set 0 v=[v,y,z] from rfl] at J;rw[K] at J;have H3:xE T m a 0 (v+1) rr.1 rr.2=some g:=J;have HW:Hid (Calls prog 127 #[(π d),ι (((zG T a v).getD 0:Nat):Int),ι 1] (wr.setCell ⟨d,1,none⟩ (ι v)) fun e j=>e=ε (.tuple #[])/\uX c.heap.size j d tb rr.1 rr.2/\μ c j):=by
       have q:=HI.out m (by omega) _ _ _ _ _ rr K (by omega) (by have:=lX T m _ _ _ _ _ _ H3;omega) F ad;rw[show((1:Nat):Int)=1 from rfl] at q;exact q
      have H4:=Q5 H3;clear D J H3 K;have al:=Q5 (HD.out _ v F);generalize (zG T a v).getD 0=dn at *;generalize (zG T a v).isSome=ds at *;clear HD HI HL;go_wp2_with (first|(go_at_call 130;refine al.out.mono ?_;rintro e j ⟨rfl,o⟩;obtain rfl:=o.symm)|(go_at_call 127;refine HW.out.mono ?_;rintro e w3 ⟨rfl,R,ai⟩;have E:=Q5 R;obtain⟨x3,y3,z3,a9,_,_,ae,_,_⟩:=R;obtain⟨a2,a3,a6⟩:=ae.boxed)|(go_at_call 167;refine(af.out _ ai).mono ?_;rintro e j ⟨rfl,o⟩;obtain rfl:=o.symm))
      go_roundg m
      case measure=>omega
      case rel=>exact⟨v+1,rr.1,rr.2,rfl,rfl,E,H4,by omega,ai⟩
theorem K3(c:World)(tb:Nat)(T:zi)(fp:List Nat)(ht:zY lo c tb T fp)(d n:Nat)(ih:(∀m,m<n->∀(w:World) (a level:Nat) (row:zm) (h:List zm) (g:zm×List zm),xE T m a level 0 row h=some g->level<3->g.2.length<=1048576->μ c w->uX c.heap.size w d tb row h->Calls prog 127 #[(π d),ι a,ι level] w fun e j=>e=ε (.tuple #[])/\uX c.heap.size j d tb g.1 g.2/\μ c j))(w:World)(a:Nat)(row:zm)(h:List zm)(g:zm×List zm)(P:xE T n a 1 0 row h=some g)(a0:g.2.length<=1048576)(U:μ c w)(I:uX c.heap.size w d tb row h):
  Calls prog 127 #[(π d),ι a,ι 1] w fun e j=>e=ε (.tuple #[])/\uX c.heap.size j d tb g.1 g.2/\μ c j:=by
 have HI:=Q5 ih;clear ih;have HL:Hid (∀W f,μ c W->Calls prog 167 #[(π tb),ι a,ι ((f:Nat):Int)] W fun e j=>e=ε (.tuple #[ι (((yz T a f).getD 0:Nat):Int),.bool (yz T a f).isSome])/\j=W):=fun W f hW=>r9 W tb T fp a f (ht.below hW);have HD:Hid (∀W v,μ c W->Calls prog 130 #[(π tb),ι a,ι ((v:Nat):Int)] W fun e j=>e=ε (.tuple #[ι (((zG T a v).getD 0:Nat):Int),.bool (zG T a v).isSome])/\j=W):=fun W v hW=>n9 W tb T fp a v (ht.below hW);have aA:T.ql<=3:=by obtain⟨nv,ns,h1,_⟩:=ht;exact h1.deep
 have aF:T.qf<=1000:=by obtain⟨nv,ns,h1,_⟩:=ht;exact h1.wide
 have B:∃nv,Q6 c tb #[ι T.qf,ι T.ql,nv,ι T.count] 229:=by obtain⟨nv,ns,h1,_⟩:=ht;exact⟨nv,h1.box⟩
 obtain⟨nv,B⟩:=B;clear ht;have aj:=Q5 I;have Q:=Q5 P;obtain⟨x,y,z,rv,am,t,s,au,ay⟩:=I;clear am au ay P;obtain⟨L,N,X⟩:=s.boxed;go_enter func127,ntmps127;go_wp2_with (go_at_call 167;refine(HL.out w 0 U).mono ?_;rintro e j ⟨rfl,o⟩;obtain rfl:=o.symm;clear o)
 clear L N X s;go_loopg [6,7] n (fun k v6 v7 wr=>∃(f:Nat) (H:zm) (b:List zm),v6=ι (((yz T a f).getD 0:Nat):Int)/\v7=.bool (yz T a f).isSome/\Hid (uX c.heap.size wr d tb H b)/\Hid (xE T k a 1 f H b=some g)/\k<=n/\μ c wr)
 case atStart=>exact⟨0,row,h,rfl,rfl,aj,Q,zg _,U⟩
 case round=>
  clear aj Q U t;obtain⟨f,H,b,rfl,rfl,Y,HQ,aB,M⟩:=hrel;have ax:=Y.out;obtain⟨x,y,z,rv,S,t,s,A,ac⟩:=ax;subst S;obtain⟨L,N,X⟩:=s.boxed;cases gk with
  |zero=>have:=HQ.out;simp[xE] at this
  |succ m=>
   have D:=HQ.out;unfold xE at D;cases hl:yz T a f with
   |none=>
    rw[hl] at D;simp only[zt] at D;have HE:Hid (g=([x,y,z],b)):=D.symm;clear D hl HQ;simp only[gE,gD];go_wp2;go_end0
    exact⟨rfl,by rw[HE.out];exact Y.out,M⟩
   |some v=>
    rw[hl] at D;simp only at D;have aC:v<=1000:=by have:=tu hl;omega
    clear hl HQ;simp only[ur,jV];have af:Hid (∀W,μ c W->Calls prog 167 #[(π tb),ι a,ι ((v:Int)+1)] W fun e j=>e=ε (.tuple #[ι (((yz T a (v+1)).getD 0:Nat):Int),.bool (yz T a (v+1)).isSome])/\j=W):=fun W hW=>by
     have q:=HL.out W (v+1) hW;rw[show((v+1:Nat):Int)=(v:Int)+1 from by omega] at q;exact q
    have l:=s.set 2 (ι v);simp at l;have ah:=B.below M;obtain⟨av,ap,aw⟩:=ah.boxed;have a8:d≠tb:=(fun e=>by have:=B.lt;omega);by_cases hd:T.ql<=2
    ·rw[zc (by omega)] at D;have J:Hid (xE T m a 1 (v+1) [x,v,z] (b++[[x,v,z]])=some g):=D;have Z:=lX T m _ _ _ _ _ _ D;simp at Z;clear D HI HD HL;obtain⟨i0,hi,an,az,aq⟩:=info_parts Qe;obtain⟨ao,ak,rfl⟩:=zp A;have u:(wr.setCell ⟨d,2,none⟩ (ι v)).ownsRow c.heap.size 165 3 (.slice ao b.length ak) b.length (jG b):=xO A ((QH.refl d wr).setCell 2 _) s (by decide);have F:μ c (wr.setCell ⟨d,2,none⟩ (ι v)):=M.setCell (p:=⟨d,2,none⟩) t _;have ar:=F.size;go_wp2;clear L N s A av ap aw ah Y X;generalize wr.setCell ⟨d,2,none⟩ (ι v)=wS at *;obtain⟨L,N,a1⟩:=l.boxed;go_region_law (refine dF wS _ [ι x,ι v,ι z] 165 rfl (.tmp 42) (.tmp 47) 161 rfl c.heap.size 165 i0 _ 3 24 underlying161 hi an az aq rfl (by decide) (.slice ao b.length ak) b.length (jG b) (by simp[Act.eval]) u (by exact(by go_grown)) wS.heap.size 1 (by simp[Act.eval]) (by exact Q6.drew (Q6.new _ _ _)) rfl (by simp[Value.oneCell']) (by omega) (by omega) (by omega) ?_;intro v' w2 ag ab a4 aG a5;obtain⟨C,i,rfl⟩:=zp ag;have G:=l.save ab (qB u l (by decide));obtain⟨a7,aE,aD⟩:=G.boxed)
     all_goals
      have V:QM c.heap.size (w2.setCell ⟨d,4,none⟩ (.slice C (b.length+1) i)) (.slice C (b.length+1) i) (b++[[x,v,z]]):=by
       refine⟨?_,fun r hr=>?_⟩
       ·have:=xO ag ((QH.refl d w2).setCell 4 (.slice C (b.length+1) i)) G (by decide);simpa [jG,Rj] using this
       ·rcases zI.1 hr with q|q
        ·exact ac r q
        ·simp at q;rw[q];rfl
      have O:=G.set 4 (.slice C (b.length+1) i);simp at O;have aa:μ c (w2.setCell ⟨d,4,none⟩ (.slice C (b.length+1) i)):=(F.trans (ab.below (fun x hx=>yW u (yt hx)) ar)).setCell (p:=⟨d,4,none⟩) t _;have E:Hid (uX c.heap.size (w2.setCell ⟨d,4,none⟩ (.slice C (b.length+1) i)) d tb [x,v,z] (b++[[x,v,z]])):=⟨_,_,_,_,rfl,t,O,V⟩;go_wp2_with (go_at_call 167;refine(af.out _ (by exact aa)).mono ?_;rintro e j ⟨rfl,o⟩;obtain rfl:=o.symm)
      go_roundg m
      case measure=>omega
      case rel=>exact⟨v+1,_,_,rfl,rfl,E,J,by omega,aa⟩
    ·have J:=D;rw[za (by omega),za (by omega)] at J;have F:μ c (wr.setCell ⟨d,2,none⟩ (ι v)):=M.setCell (p:=⟨d,2,none⟩) t _;have ad:uX c.heap.size (wr.setCell ⟨d,2,none⟩ (ι v)) d tb [x,v,z] b:=⟨_,_,_,rv,rfl,t,l,xO A ((QH.refl d wr).setCell 2 _) s (by decide),ac⟩;cases K:xE T m ((zG T a v).getD 0) 2 0 [x,v,z] b with
     |none=>rw[show [x,y,z].set 1 v=[x,v,z] from rfl] at J;rw[K] at J;cases J
     |some rr=>
      rw[show [x,y,z].set 1 v=[x,v,z] from rfl] at J;rw[K] at J;have H3:xE T m a 1 (v+1) rr.1 rr.2=some g:=J;have HW:Hid (Calls prog 127 #[(π d),ι (((zG T a v).getD 0:Nat):Int),ι 2] (wr.setCell ⟨d,2,none⟩ (ι v)) fun e j=>e=ε (.tuple #[])/\uX c.heap.size j d tb rr.1 rr.2/\μ c j):=by
       have q:=HI.out m (by omega) _ _ _ _ _ rr K (by omega) (by have:=lX T m _ _ _ _ _ _ H3;omega) F ad;rw[show((2:Nat):Int)=2 from rfl] at q;exact q
      have H4:=Q5 H3;clear D J H3 K;have al:=Q5 (HD.out _ v F);generalize (zG T a v).getD 0=dn at *;generalize (zG T a v).isSome=ds at *;clear HD HI HL;go_wp2_with (first|(go_at_call 130;refine al.out.mono ?_;rintro e j ⟨rfl,o⟩;obtain rfl:=o.symm)|(go_at_call 127;refine HW.out.mono ?_;rintro e w3 ⟨rfl,R,ai⟩;have E:=Q5 R;obtain⟨x3,y3,z3,a9,_,_,ae,_,_⟩:=R;obtain⟨a2,a3,a6⟩:=ae.boxed)|(go_at_call 167;refine(af.out _ ai).mono ?_;rintro e j ⟨rfl,o⟩;obtain rfl:=o.symm))
      go_roundg m
      case measure=>omega
      case rel=>exact⟨v+1,rr.1,rr.2,rfl,rfl,E,H4,by omega,ai⟩
theorem LN(c:World)(tb:Nat)(T:zi)(fp:List Nat)(U:zY lo c tb T fp)(i n:Nat)(ih:(∀m,m<n->∀(w:World) (a level:Nat) (row:zm) (g:List zm) (d:zm×List zm),xE T m a level 0 row g=some d->level<3->d.2.length<=1048576->μ c w->uX c.heap.size w i tb row g->Calls prog 127 #[(π i),ι a,ι level] w fun e u=>e=ε (.tuple #[])/\uX c.heap.size u i tb d.1 d.2/\μ c u))(w:World)(a:Nat)(row:zm)(g:List zm)(d:zm×List zm)(K:xE T n a 2 0 row g=some d)(ax:d.2.length<=1048576)(N:μ c w)(F:uX c.heap.size w i tb row g):
  Calls prog 127 #[(π i),ι a,ι 2] w fun e u=>e=ε (.tuple #[])/\uX c.heap.size u i tb d.1 d.2/\μ c u:=by
 have HI:=Q5 ih;clear ih;have HL:Hid (∀W f,μ c W->Calls prog 167 #[(π tb),ι a,ι ((f:Nat):Int)] W fun e u=>e=ε (.tuple #[ι (((yz T a f).getD 0:Nat):Int),.bool (yz T a f).isSome])/\u=W):=fun W f X=>r9 W tb T fp a f (U.below X);have HD:Hid (∀W v,μ c W->Calls prog 130 #[(π tb),ι a,ι ((v:Nat):Int)] W fun e u=>e=ε (.tuple #[ι (((zG T a v).getD 0:Nat):Int),.bool (zG T a v).isSome])/\u=W):=fun W v X=>n9 W tb T fp a v (U.below X);have am:T.ql<=3:=by obtain⟨V,ns,h1,_⟩:=U;exact h1.deep
 have a7:T.qf<=1000:=by obtain⟨V,ns,h1,_⟩:=U;exact h1.wide
 have s:∃V,Q6 c tb #[ι T.qf,ι T.ql,V,ι T.count] 229:=by obtain⟨V,ns,h1,_⟩:=U;exact⟨V,h1.box⟩
 obtain⟨V,s⟩:=s;clear U;have ae:=Q5 F;have L:=Q5 K;obtain⟨x,y,z,rv,ah,D,l,ap,av⟩:=F;clear ah ap av K;obtain⟨G,I,P⟩:=l.boxed;go_enter func127,ntmps127;go_wp2_with (go_at_call 167;refine(HL.out w 0 N).mono ?_;rintro e u ⟨rfl,H⟩;obtain rfl:=H.symm;clear H)
 clear G I P l;go_loopg [6,7] n (fun k v6 v7 wr=>∃(f:Nat) (E:zm) (b:List zm),v6=ι (((yz T a f).getD 0:Nat):Int)/\v7=.bool (yz T a f).isSome/\Hid (uX c.heap.size wr i tb E b)/\Hid (xE T k a 2 f E b=some d)/\k<=n/\μ c wr)
 case atStart=>exact⟨0,row,g,rfl,rfl,ae,L,zg _,N⟩
 case round=>
  clear ae L N D;obtain⟨f,E,b,rfl,rfl,Q,HQ,a3,S⟩:=hrel;have au:=Q.out;obtain⟨x,y,z,rv,M,D,l,A,ag⟩:=au;subst M;obtain⟨G,I,P⟩:=l.boxed;cases gk with
  |zero=>have:=HQ.out;simp[xE] at this
  |succ m=>
   have C:=HQ.out;unfold xE at C;cases hl:yz T a f with
   |none=>
    rw[hl] at C;simp only[zt] at C;have HE:Hid (d=([x,y,z],b)):=C.symm;clear C hl HQ;simp only[gE,gD];go_wp2;go_end0
    exact⟨rfl,by rw[HE.out];exact Q.out,S⟩
   |some v=>
    rw[hl] at C;simp only at C;have a4:v<=1000:=by have:=tu hl;omega
    clear hl HQ;simp only[ur,jV];have an:Hid (∀W,μ c W->Calls prog 167 #[(π tb),ι a,ι ((v:Int)+1)] W fun e u=>e=ε (.tuple #[ι (((yz T a (v+1)).getD 0:Nat):Int),.bool (yz T a (v+1)).isSome])/\u=W):=fun W X=>by
     have q:=HL.out W (v+1) X;rw[show((v+1:Nat):Int)=(v:Int)+1 from by omega] at q;exact q
    have o:=l.set 3 (ι v);simp at o;have ad:=s.below S;obtain⟨aq,ai,ar⟩:=ad.boxed;have a2:i≠tb:=(fun e=>by have:=s.lt;omega);by_cases hd:T.ql<=3
    ·rw[zc (by omega)] at C;have H2:Hid (xE T m a 2 (v+1) [x,y,v] (b++[[x,y,v]])=some d):=C;have R:=lX T m _ _ _ _ _ _ C;simp at R;clear C HI HD HL;obtain⟨i0,hi,aj,aw,ak⟩:=info_parts Qe;obtain⟨ao,af,rfl⟩:=zp A;have j:(wr.setCell ⟨i,3,none⟩ (ι v)).ownsRow c.heap.size 165 3 (.slice ao b.length af) b.length (jG b):=xO A ((QH.refl i wr).setCell 3 _) l (by decide);have aa:μ c (wr.setCell ⟨i,3,none⟩ (ι v)):=S.setCell (p:=⟨i,3,none⟩) D _;have al:=aa.size;go_wp2;clear G I l A aq ai ar ad Q P;generalize wr.setCell ⟨i,3,none⟩ (ι v)=wS at *;obtain⟨G,I,ay⟩:=o.boxed;go_region_law (refine dF wS _ [ι x,ι y,ι v] 165 rfl (.tmp 42) (.tmp 47) 161 rfl c.heap.size 165 i0 _ 3 24 underlying161 hi aj aw ak rfl (by decide) (.slice ao b.length af) b.length (jG b) (by simp[Act.eval]) j (by exact(by go_grown)) wS.heap.size 1 (by simp[Act.eval]) (by exact Q6.drew (Q6.new _ _ _)) rfl (by simp[Value.oneCell']) (by omega) (by omega) (by omega) ?_;intro v' w2 ac ab az a8 a0;obtain⟨t,h,rfl⟩:=zp ac;have B:=o.save ab (qB j o (by decide));obtain⟨a1,a6,a5⟩:=B.boxed)
     all_goals
      have O:QM c.heap.size (w2.setCell ⟨i,4,none⟩ (.slice t (b.length+1) h)) (.slice t (b.length+1) h) (b++[[x,y,v]]):=by
       refine⟨?_,fun r hr=>?_⟩
       ·have:=xO ac ((QH.refl i w2).setCell 4 (.slice t (b.length+1) h)) B (by decide);simpa [jG,Rj] using this
       ·rcases zI.1 hr with q|q
        ·exact ag r q
        ·simp at q;rw[q];rfl
      have J:=B.set 4 (.slice t (b.length+1) h);simp at J;have Y:μ c (w2.setCell ⟨i,4,none⟩ (.slice t (b.length+1) h)):=(aa.trans (ab.below (fun x hx=>yW j (yt hx)) al)).setCell (p:=⟨i,4,none⟩) D _;have Z:Hid (uX c.heap.size (w2.setCell ⟨i,4,none⟩ (.slice t (b.length+1) h)) i tb [x,y,v] (b++[[x,y,v]])):=⟨_,_,_,_,rfl,D,J,O⟩;go_wp2_with (go_at_call 167;refine(an.out _ (by exact Y)).mono ?_;rintro e u ⟨rfl,H⟩;obtain rfl:=H.symm)
      go_roundg m
      case measure=>omega
      case rel=>exact⟨v+1,_,_,rfl,rfl,Z,H2,by omega,Y⟩
    ·exact zC am (by omega)
theorem Sn(h:World)(tb:Nat)(T:zi)(fp:List Nat)(k:zY lo h tb T fp)(j:Nat):∀(n:Nat) (w:World) (a level:Nat) (row:zm) (b:List zm) (c:zm×List zm),xE T n a level 0 row b=some c->level<3->c.2.length<=1048576->μ h w->uX h.heap.size w j tb row b →
  Calls prog 127 #[(π j),ι a,ι level] w fun e o=>e=ε (.tuple #[])/\uX h.heap.size o j tb c.1 c.2/\μ h o:=by
 intro n;induction n using Nat.strongRecOn with
 |_ n l=>
  intro w a level row b c g m f i d;obtain rfl|rfl|rfl:level=0∨level=1∨level=2:=by omega
  ·exact La h tb T fp k j n l w a row b c g f i d
  ·exact K3 h tb T fp k j n l w a row b c g f i d
  ·exact LN h tb T fp k j n l w a row b c g f i d
theorem Gi(w:World)(tb:Nat)(T:zi)(fp:List Nat)(p:zY lo w tb T fp)(n:Nat)(rs:List zm)(a:nU n T=some rs)(b:rs.length<=1048576):
  Calls prog 78 #[(π tb)] w fun e k=>∃v,e=.returned v/\QM w.heap.size k v rs/\μ w k:=by
 unfold nU at a;cases j:xE T n 0 0 0 [0,0,0] [] with
 |none=>rw[j] at a;cases a
 |some d=>
  rw[j] at a;simp only[jy,zt] at a;subst a;have hrel:uX w.heap.size (w.alloc (.cells #[(π tb),ι 0,ι 0,ι 0,ν] 223)) w.heap.size tb [0,0,0] []:=⟨0,0,0,_,rfl,zg _,Q6.new _ _ _,yC _ _ _ _,by simp⟩;have q:=Q5 (Sn w tb T fp p w.heap.size n _ 0 0 _ _ d j (by omega) b zT hrel);go_enter func78,ntmps78;go_wp2_with (go_at_call 127;refine q.out.mono ?_;rintro e r ⟨rfl,f,i⟩;obtain⟨x,y,z,s,_,_,g,c⟩:=f;have h:=Q5 c;clear c;obtain⟨o,l,m⟩:=g.boxed)
  go_ret;exact⟨_,rfl,h.out,i⟩
def jL(t:zZ):Value×Value×Value:=(.bool t.var,ι t.num,ι t.level)
structure yh (lo:Nat) (w:World) (v:Value) (ts:List zZ):Prop where
 own:w.ownsRow lo 284 3 v ts.length (QT (ts.map jL))
 len:ts.length<=1000
 num:∀t∈ts,t.num<=1000000/\t.level<=1000000
theorem yh.below{w w':World}{v:Value}{ts:List zZ}(h:yh lo w v ts)(a:μ w w'):yh lo w' v ts:=⟨zB h.own a,h.len,h.num⟩
theorem yh.qx{w:World}{v:Value}{ts:List zZ}(h:yh lo w v ts):∃b a,v=.slice b ts.length a:=zp h.own
theorem yh.cell{w:World}{d:Option Addr}{n cap:Nat}{ts:List zZ}(h:yh lo w (.slice d n cap) ts)(k:Nat)(j:k<ts.length):∃g,d=some ⟨g,0,none⟩/\g<w.heap.size/\w.cell? ⟨g,k*3,none⟩=some (.bool ts[k].var)/\w.cell? ⟨g,k*3+1,none⟩=some (ι (ts[k].num:Nat))/\w.cell? ⟨g,k*3+2,none⟩=some (ι (ts[k].level:Nat)):=by
 obtain⟨g,f,c,_,i,_⟩:=yv h.own (by omega);simp only[Value.slice.injEq] at c;obtain⟨rfl,_,_⟩:=c;obtain⟨_,b,a,e⟩:=oY h.own k (by simpa using j);simp only[uM,jL] at b a e;exact⟨g,rfl,i,b,a,e⟩
theorem Ru{α:Type}(l:List α)(p:α->Bool)(k:Nat)(a:k<l.length):(l.take (k+1)).any p=((l.take k).any p||p l[k]):=by
 rw[yM a,List.any_append];simp
theorem ET{α:Type}(l:List α)(p:α->Bool)(k:Nat)(a:k<l.length)(h:p l[k]=true):l.any p=true:=gI.2 ⟨_,zs a,h⟩
theorem BW(w:World)(v:Value)(f c:Nat)(ts:List zZ)(h:yh lo w v ts):
  Calls prog 202 #[.agg #[ι f,v],ι c] w fun e E=>e=ε (.bool (zH ⟨f,ts⟩ c))/\μ w E:=by
 obtain⟨I,F,rfl⟩:=h.qx;have G:=h.len;go_enter func202,ntmps202;go_wp2;go_loopw [10] (fun p wr=>∃k:Nat,k<=ts.length/\p=ι k/\Hid ((ts.take k).any (fun t=>t.var&&t.num == c)=false)/\μ w wr) (fun i _=>ts.length-(intOf i).toNat)
 case atStart=>exact⟨0,zv _,rfl,rfl,(by go_grown)⟩
 case round=>
  obtain⟨k,H,rfl,q,a⟩:=hrel;have b:=a.size;by_cases d:k<ts.length
  ·obtain⟨g,rfl,n,C,B,A⟩:=h.cell k d;have s:=zl a n C;have x:=zl a n B;have z:=zl a n A;have l:=Q5 (Ru ts (fun t=>t.var&&t.num == c) k d);have y:=Q5 (ET ts (fun t=>t.var&&t.num == c) k d);generalize ts[k]=t at *;cases u:t.var with
   |false=>
    rw[u] at s l;go_wp2;go_roundw
    case rel=>exact⟨k+1,by omega,by go_num,(by rw[l.out,q.out];rfl),a.alloc b _⟩
    case measure=>simp[intOf];omega
   |true=>
    by_cases r:t.num=c
    ·have j:Hid (zH ⟨f,ts⟩ c=true):=y.out (by simp[u,r]);subst r;go_wp2;go_ret;exact⟨by rw[j.out];rfl,a.alloc b _⟩
    ·have m:Hid ((t.var&&t.num == c)=false):=by simp[Hid,r]
     have o:Hid ((ts.take (k+1)).any (fun t=>t.var&&t.num == c)=false):=by rw[Hid,l.out,q.out,m.out];rfl
     go_wp2;go_roundw
     case rel=>exact⟨k+1,by omega,by go_num,o,a.alloc b _⟩
     case measure=>simp[intOf];omega
  ·have D:Hid (zH ⟨f,ts⟩ c=false):=by
    have:=q.out;rw[xh (by omega)] at this;exact this
   go_wp2;go_ret;exact⟨by rw[D.out];rfl,a⟩
theorem AY(p:Nat->Bool)(k:Nat):(List.range (k+1)).countP p=(List.range k).countP p+(if p k then 1 else 0):=by
 rw[List.range_succ,List.countP_append];simp[List.countP_cons]
theorem Ev(w:World)(v:Value)(a b:Nat)(ts:List zZ)(h:yh lo w v ts)(H:b<=1000000):
  Calls prog 187 #[.agg #[ι a,v],ι b] w fun e C=>e=ε (qW (yN ⟨a,ts⟩ b))/\μ w C:=by
 have z:=Q5 fun W p n=>BW W v a p ts (h.below n);cases j:zH ⟨a,ts⟩ b with
 |false=>
  have x:Hid (yN ⟨a,ts⟩ b=none):=by simp[Hid,yN,j]
  have A:=Q5 fun W n=>by have q:=z.out W b n;rw[j] at q;exact q
  go_enter func187,ntmps187;go_wp2_with (go_at_call 202;refine(A.out _ (by exact(by go_grown))).mono ?_;rintro e r ⟨rfl,c⟩;have i:μ w r:=zQ (by go_grown) c (zg _))
  go_ret2
  exact⟨by rw[x.out];rfl,i⟩
 |true=>
  have x:Hid (yN ⟨a,ts⟩ b=some ((List.range b).countP (zH ⟨a,ts⟩))):=by simp[Hid,yN,j]
  have A:=Q5 fun W n=>by have q:=z.out W b n;rw[j] at q;exact q
  go_enter func187,ntmps187;go_wp2_with (go_at_call 202;refine(A.out _ (by exact(by go_grown))).mono ?_;rintro e r ⟨rfl,c⟩;have i:μ w r:=zQ (by go_grown) c (zg _);have u:=(Q6.new w #[ι a,v] 204).below c)
  go_loopw [6,7] (fun B y wr=>∃k:Nat,k<=b/\y=ι k/\B=ι ((List.range k).countP (zH ⟨a,ts⟩):Nat)/\μ r wr) (fun _ y _=>b-(intOf y).toNat)
  case atStart=>exact⟨0,zv _,rfl,rfl,zo _ _⟩
  case round=>
   obtain⟨k,I,rfl,rfl,d⟩:=hrel;have m:=Q9 i d;have o:=u.below d;obtain⟨G,J⟩:=o.rules;have E:(List.range k).countP (zH ⟨a,ts⟩)<=k:=by have:=rO (p:=zH ⟨a,ts⟩) (l:=List.range k);simpa using this
   by_cases F:k<b
   ·have s:=AY (zH ⟨a,ts⟩) k;have t:=Q5 (z.out wr k m);cases j:zH ⟨a,ts⟩ k with
    |false=>
     rw[j] at s t;have f:Hid ((List.range (k+1)).countP (zH ⟨a,ts⟩)=(List.range k).countP (zH ⟨a,ts⟩)):=by rw[Hid,s];simp
     go_wp2_with (go_at_call 202;refine t.out.mono ?_;rintro e D ⟨rfl,g⟩)
     go_roundw
     case rel=>exact⟨k+1,by omega,by go_num,by rw[f.out],Q9 d g⟩
     case measure=>simp[intOf];omega
    |true=>
     rw[j] at s t;have f:Hid ((List.range (k+1)).countP (zH ⟨a,ts⟩)=(List.range k).countP (zH ⟨a,ts⟩)+1):=by rw[Hid,s];simp
     go_wp2_with (go_at_call 202;refine t.out.mono ?_;rintro e D ⟨rfl,g⟩)
     go_roundw
     case rel=>exact⟨k+1,by omega,by go_num,by rw[f.out];go_num,Q9 d g⟩
     case measure=>simp[intOf];omega
   ·obtain rfl:k=b:=by omega
    go_wp2;go_ret2
    exact⟨by rw[x.out];rfl,m⟩
theorem Cr(w:World)(v:Value)(a:Nat)(ts:List zZ)(h:yh lo w v ts):
  Calls prog 212 #[.agg #[ι a,v]] w fun e u=>e=ε (ι (yO ⟨a,ts⟩:Nat))/\μ w u:=by
 have z:=Q5 fun W p r=>BW W v a p ts (h.below r);have n:=Q6.new w #[ι a,v] 204;have t:Hid (yO ⟨a,ts⟩=(List.range 5).countP (zH ⟨a,ts⟩)):=rfl;go_enter func212,ntmps212;go_wp2;go_loopw [3,4] (fun s o wr=>∃k:Nat,k<=5/\o=ι k/\s=ι ((List.range k).countP (zH ⟨a,ts⟩):Nat)/\Below (w.heap.size+1) (w.alloc (.cells #[ι a,v] 204)) wr) (fun _ o _=>5-(intOf o).toNat)
 case atStart=>exact⟨0,zv _,rfl,rfl,zo _ _⟩
 case round=>
  obtain⟨k,C,rfl,rfl,b⟩:=hrel;have g:Below (w.alloc (.cells #[ι a,v] 204)).heap.size (w.alloc (.cells #[ι a,v] 204)) wr:=by simpa using b
  have f:μ w wr:=zQ (by go_grown) g (zg _);have i:=n.below g;obtain⟨B,D⟩:=i.rules;have y:(List.range k).countP (zH ⟨a,ts⟩)<=k:=by have:=rO (p:=zH ⟨a,ts⟩) (l:=List.range k);simpa using this
  by_cases A:k<5
  ·have j:=AY (zH ⟨a,ts⟩) k;have m:=Q5 (z.out wr k f);cases q:zH ⟨a,ts⟩ k with
   |false=>
    rw[q] at j m;have c:Hid ((List.range (k+1)).countP (zH ⟨a,ts⟩)=(List.range k).countP (zH ⟨a,ts⟩)):=by rw[Hid,j];simp
    go_wp2_with (go_at_call 202;refine m.out.mono ?_;rintro e x ⟨rfl,d⟩)
    go_roundw
    case rel=>exact⟨k+1,by omega,by go_num,by rw[c.out],zQ b d (by simp)⟩
    case measure=>simp[intOf];omega
   |true=>
    rw[q] at j m;have c:Hid ((List.range (k+1)).countP (zH ⟨a,ts⟩)=(List.range k).countP (zH ⟨a,ts⟩)+1):=by rw[Hid,j];simp
    go_wp2_with (go_at_call 202;refine m.out.mono ?_;rintro e x ⟨rfl,d⟩)
    go_roundw
    case rel=>exact⟨k+1,by omega,by go_num,by rw[c.out];go_num,zQ b d (by simp)⟩
    case measure=>simp[intOf];omega
  ·obtain rfl:k=5:=by omega
   go_wp2;go_ret;exact⟨by rw[t.out];rfl,f⟩
theorem rD{α β:Type}(l:List α)(f:β->α->β)(b:β)(k:Nat)(a:k<l.length):(l.take (k+1)).foldl f b=f ((l.take k).foldl f b) l[k]:=by
 rw[yM a,j7];rfl
def fq(k:Nat)(t:zZ):Nat:=if t.var&&decide (t.num≥k) then t.num+1 else k
theorem OH(l:zu):uG l=l.qg.foldl fq 0:=rfl
theorem Af(w:World)(v:Value)(j:Nat)(ts:List zZ)(h:yh lo w v ts):
  Calls prog 222 #[.agg #[ι j,v]] w fun e B=>e=ε (ι (uG ⟨j,ts⟩:Nat))/\μ w B:=by
 obtain⟨G,D,rfl⟩:=h.qx;have E:=h.len;have A:Hid (uG ⟨j,ts⟩=ts.foldl fq 0):=OH _;go_enter func222,ntmps222;go_wp2;go_loopw [3,9] (fun u x wr=>∃k:Nat,k<=ts.length/\x=ι k/\u=ι ((ts.take k).foldl fq 0:Nat)/\μ w wr) (fun _ i _=>ts.length-(intOf i).toNat)
 case atStart=>exact⟨0,zv _,rfl,rfl,(by go_grown)⟩
 case round=>
  obtain⟨k,F,rfl,rfl,a⟩:=hrel;have c:=a.size;by_cases d:k<ts.length
  ·obtain⟨g,rfl,l,z,y,s⟩:=h.cell k d;have C:=zl a l z;have p:=zl a l y;have q:=zl a l s;have r:=(h.num _ (zs d)).1;have f:=Q5 (rD ts fq 0 k d);generalize ts[k]=t at *;generalize (ts.take k).foldl fq 0=m at *;cases o:t.var with
   |false=>
    have b:Hid ((ts.take (k+1)).foldl fq 0=m):=by rw[Hid,f.out];simp[fq,o]
    go_wp2;go_roundw
    case rel=>exact⟨k+1,by omega,by go_num,by rw[b.out],a.alloc c _⟩
    case measure=>simp[intOf];omega
   |true=>
    by_cases n:t.num≥m
    ·have b:Hid ((ts.take (k+1)).foldl fq 0=t.num+1):=by rw[Hid,f.out];simp[fq,o,n]
     go_wp2;go_roundw
     case rel=>exact⟨k+1,by omega,by go_num,by rw[b.out];go_num,a.alloc c _⟩
     case measure=>simp[intOf];omega
    ·have b:Hid ((ts.take (k+1)).foldl fq 0=m):=by rw[Hid,f.out];simp[fq,n]
     go_wp2;go_roundw
     case rel=>exact⟨k+1,by omega,by go_num,by rw[b.out],a.alloc c _⟩
     case measure=>simp[intOf];omega
  ·rw[xh (by omega)];go_wp2;go_ret;exact⟨by rw[A.out];rfl,a⟩
def gu(jd k:Int)(t:zZ):Int:=if t.var&&decide ((t.num:Int)<jd)&&decide ((t.num:Int)>k) then(t.num:Int) else k
theorem Kq(l:zu)(jd:Int):jT l jd=l.qg.foldl (gu jd) (-1):=rfl
theorem Ai(w:World)(v:Value)(m:Nat)(d:Int)(ts:List zZ)(h:yh lo w v ts):
  Calls prog 225 #[.agg #[ι m,v],ι d] w fun e C=>e=ε (ι (jT ⟨m,ts⟩ d))/\μ w C:=by
 obtain⟨H,E,rfl⟩:=h.qx;have F:=h.len;have B:Hid (jT ⟨m,ts⟩ d=ts.foldl (gu d) (-1)):=Kq _ _;go_enter func225,ntmps225;go_wp2;go_loopw [5,11] (fun A o wr=>∃k:Nat,k<=ts.length/\o=ι k/\A=ι ((ts.take k).foldl (gu d) (-1))/\μ w wr) (fun _ i _=>ts.length-(intOf i).toNat)
 case atStart=>exact⟨0,zv _,rfl,rfl,(by go_grown)⟩
 case round=>
  obtain⟨k,G,rfl,rfl,a⟩:=hrel;have c:=a.size;by_cases f:k<ts.length
  ·obtain⟨g,rfl,n,z,y,x⟩:=h.cell k f;have D:=zl a n z;have s:=zl a n y;have u:=zl a n x;have j:=Q5 (rD ts (gu d) (-1) k f);generalize ts[k]=t at *;generalize (ts.take k).foldl (gu d) (-1)=l at *;cases r:t.var with
   |false=>
    have b:Hid ((ts.take (k+1)).foldl (gu d) (-1)=l):=by rw[Hid,j.out];simp[gu,r]
    go_wp2;go_roundw
    case rel=>exact⟨k+1,by omega,by go_num,by rw[b.out],a.alloc c _⟩
    case measure=>simp[intOf];omega
   |true=>
    by_cases q:(t.num:Int)<d
    ·by_cases p:(t.num:Int)>l
     ·have b:Hid ((ts.take (k+1)).foldl (gu d) (-1)=(t.num:Int)):=by rw[Hid,j.out];simp[gu,r,q,p]
      go_wp2;go_roundw
      case rel=>exact⟨k+1,by omega,by go_num,by rw[b.out],a.alloc c _⟩
      case measure=>simp[intOf];omega
     ·have b:Hid ((ts.take (k+1)).foldl (gu d) (-1)=l):=by rw[Hid,j.out];simp[gu,p]
      go_wp2;go_roundw
      case rel=>exact⟨k+1,by omega,by go_num,by rw[b.out],a.alloc c _⟩
      case measure=>simp[intOf];omega
    ·have b:Hid ((ts.take (k+1)).foldl (gu d) (-1)=l):=by rw[Hid,j.out];simp[gu,q]
     go_wp2;go_roundw
     case rel=>exact⟨k+1,by omega,by go_num,by rw[b.out],a.alloc c _⟩
     case measure=>simp[intOf];omega
  ·rw[xh (by omega)];go_wp2;go_ret;exact⟨by rw[B.out];rfl,a⟩
theorem Dr(w:World)(v:Value)(c:Nat)(d:Int)(ts:List zZ)(h:yh lo w v ts):
  Calls prog 226 #[.agg #[ι c,v],ι d] w fun e p=>e=ε (ι (qz ⟨c,ts⟩ d))/\μ w p:=by
 have m:=Q5 fun W k=>Af W v c ts (h.below k);have o:=Q5 fun W k=>Ai W v c d ts (h.below k);have f:Hid (qz ⟨c,ts⟩ d=if (uG ⟨c,ts⟩:Int)<=d then -1 else jT ⟨c,ts⟩ d):=rfl;generalize uG ⟨c,ts⟩=n at *;by_cases l:(n:Int)<=d
 ·rw[zc l] at f;go_enter func226,ntmps226;go_wp2_with (go_at_call 222;refine(m.out _ (by exact(by go_grown))).mono ?_;rintro e i ⟨rfl,b⟩;have a:μ w i:=zQ (by go_grown) b (zg _))
  go_ret;exact⟨by rw[f.out];rfl,a⟩
 ·rw[za l] at f;go_enter func226,ntmps226;go_wp2_with (first|(go_at_call 222;refine(m.out _ (by exact(by go_grown))).mono ?_;rintro e i ⟨rfl,b⟩;have a:μ w i:=zQ (by go_grown) b (zg _);have j:=(Q6.new w #[ι c,v] 204).below b;obtain⟨q,s,r⟩:=j.boxed)|(go_at_call 225;refine(o.out _ a).mono ?_;rintro e t ⟨rfl,g⟩))
  go_ret;exact⟨by rw[f.out];rfl,Q9 a g⟩
theorem EG(a b:Nat):((a:Int) == (b:Int))=(a == b):=by
 by_cases h:a=b
 ·subst h;rw[beq_self_eq_true,beq_self_eq_true]
 ·rw[beq_eq_false_iff_ne.2 (by omega:(a:Int)≠(b:Int)),beq_eq_false_iff_ne.2 h]
def nQ(t:zZ):Value:=.agg #[.bool t.var,ι t.num,ι t.level]
def So(x y z:Nat):Value:=.agg #[ι x,ι y,ι z]
def rh(a b c d e:Nat):Value:=.agg #[ι a,ι b,ι c,ι d,ι e]
theorem oW(w:World)(t:zZ)(a b c d e:Nat):
  Calls prog 188 #[nQ t,rh a b c d e] w fun r j=>r=ε (ι (RP t [a,b,c,d,e]:Nat))/\μ w j:=by
 obtain⟨i,n,g⟩:=t;unfold nQ rh;simp only;cases i with
 |false=>
  have f:Hid (RP ⟨false,n,g⟩ [a,b,c,d,e]=n):=rfl;go_enter func188,ntmps188;go_wp2;go_ret;exact⟨by rw[f.out];rfl,(by go_grown)⟩
 |true=>
  by_cases h:n<5
  ·have f:Hid (RP ⟨true,n,g⟩ [a,b,c,d,e]=[a,b,c,d,e].getD n 0):=by simp[Hid,RP,h]
   obtain rfl|rfl|rfl|rfl|rfl:n=0∨n=1∨n=2∨n=3∨n=4:=by omega
   all_goals
    go_enter func188,ntmps188;go_wp2;go_ret;exact⟨by rw[f.out];rfl,(by go_grown)⟩
  ·have f:Hid (RP ⟨true,n,g⟩ [a,b,c,d,e]=n):=by simp[Hid,RP,h]
   go_enter func188,ntmps188;go_wp2;go_ret;exact⟨by rw[f.out];rfl,(by go_grown)⟩
theorem sJ(w:World)(t:zZ):
  Calls prog 218 #[nQ t] w fun r e=>r=ε (.bool (leveled t))/\μ w e:=by
 obtain⟨d,n,b⟩:=t;unfold nQ;simp only;cases d with
 |false=>
  have a:Hid (leveled ⟨false,n,b⟩=false):=rfl;go_enter func218,ntmps218;go_wp2;go_ret;exact⟨by rw[a.out];rfl,(by go_grown)⟩
 |true=>
  by_cases c:b<3
  ·have a:Hid (leveled ⟨true,n,b⟩=true):=by simp[Hid,leveled,c]
   go_enter func218,ntmps218;go_wp2;go_ret;exact⟨by rw[a.out];simp;omega,(by go_grown)⟩
  ·have a:Hid (leveled ⟨true,n,b⟩=false):=by simp[Hid,leveled,c]
   go_enter func218,ntmps218;go_wp2;go_ret;exact⟨by rw[a.out];simp;omega,(by go_grown)⟩
theorem iQ(w:World)(t:zZ)(v x y z:Nat):
  Calls prog 219 #[nQ t,ι v,So x y z] w fun r A=>r=ε (.bool (j5 t v [x,y,z]))/\μ w A:=by
 have f:=Q5 fun W=>sJ W t;have i:Hid (j5 t v [x,y,z]=if leveled t then [x,y,z].getD t.level 0 == v else t.num == v):=rfl;have d:leveled t=true->t.level<3:=by simp[leveled]
 generalize leveled t=o at *;obtain⟨h,n,e⟩:=t;unfold nQ at f ⊢;unfold So;simp only at f d i ⊢;cases o with
 |false=>
  go_enter func219,ntmps219;go_wp2_with (go_at_call 218;refine(f.out _).mono ?_;rintro r j ⟨rfl,a⟩;have c:μ w j:=zQ (by go_grown) a (zg _);have b:=((Q6.new w #[.bool h,ι n,ι e] 284).below ((zo _ _).alloc (zg _) (.cells #[ι x,ι y,ι z] 165))).below a;obtain⟨k,q,m⟩:=b.boxed)
  go_ret;exact⟨by rw[i.out];simp[EG],c⟩
 |true=>
  have u:=d rfl;obtain rfl|rfl|rfl:e=0∨e=1∨e=2:=by omega
  all_goals
   go_enter func219,ntmps219;go_wp2_with (go_at_call 218;refine(f.out _).mono ?_;rintro r j ⟨rfl,a⟩;have c:μ w j:=zQ (by go_grown) a (zg _);have b:=((Q6.new w #[.bool h,ι n,ι _] 284).below ((zo _ _).alloc (zg _) (.cells #[ι x,ι y,ι z] 165))).below a;obtain⟨k,q,m⟩:=b.boxed;have g:=(Q6.newAt (w.alloc (.cells #[.bool h,ι n,ι _] 284)) (w.heap.size+1) #[ι x,ι y,ι z] 165 (by simp)).below a;obtain⟨p,l,s⟩:=g.boxed)
   go_ret;exact⟨by rw[i.out];simp[EG],c⟩
def mV(l:zu)(vals:List Nat):Nat->Array Value
 |0=>#[ι 0,ι 0,ι 0]
 |1=>#[ι ((Q7 l vals 0:Nat):Int),ι 0,ι 0]
 |2=>#[ι ((Q7 l vals 0:Nat):Int),ι ((Q7 l vals 1:Nat):Int),ι 0]
 |_=>#[ι ((Q7 l vals 0:Nat):Int),ι ((Q7 l vals 1:Nat):Int),ι ((Q7 l vals 2:Nat):Int)]
theorem eS(w:World)(v:Value)(o:Nat)(ts:List zZ)(a b c d e:Nat)(h:yh lo w v ts):
  Calls prog 161 #[.agg #[ι o,v],rh a b c d e] w fun r Z=>r=ε (.agg #[ι ((Q7 ⟨o,ts⟩ [a,b,c,d,e] 0:Nat):Int),ι ((Q7 ⟨o,ts⟩ [a,b,c,d,e] 1:Nat):Int),ι ((Q7 ⟨o,ts⟩ [a,b,c,d,e] 2:Nat):Int)])/\μ w Z:=by
 obtain⟨ao,ad,rfl⟩:=h.qx;have hl:=h.len;unfold rh;go_enter func161,ntmps161;go_wp2;go_loopw [7] (fun v7 wr=>∃k:Nat,k<=3/\v7=ι k/\Q6 wr w.heap.size #[ι o,.slice ao ts.length ad] 204/\Q6 wr (w.heap.size+1) #[ι a,ι b,ι c,ι d,ι e] 262/\Q6 wr (w.heap.size+2) #[ι 0,ι 0,ι 0] 165/\Q6 wr (w.heap.size+3) (mV ⟨o,ts⟩ [a,b,c,d,e] k) 165/\μ w wr) (fun i _=>3-(intOf i).toNat)
 case atStart=>exact⟨0,by omega,rfl,(((Q6.new w _ _).below zT).below zT).below zT,((Q6.newAt _ _ _ _ (by simp)).below zT).below zT,(Q6.newAt _ _ _ _ (by simp)).below zT,Q6.newAt _ _ _ _ (by simp),(by go_grown)⟩
 case round=>
  obtain⟨k,hk,rfl,A,B,z,N,j⟩:=hrel;obtain⟨ak,al,ag⟩:=A.boxed;obtain⟨aj,ah,af⟩:=B.boxed;have ae:=j.size;match k,hk with
  |0,_=>
   have l:Q6 wr (w.heap.size+3) #[ι 0,ι 0,ι 0] 165:=N;obtain⟨Y,X,aa⟩:=l.boxed;by_cases u:0<ts.length
   ·obtain⟨g,H,K,S,R,Q⟩:=h.cell 0 u;subst H;have M:=zl j K S;have D:=zl j K R;have E:=zl j K Q;simp only[Nat.reduceMul,Nat.reduceAdd] at M D E;have ab:g<wr.heap.size:=by omega
    have C:Hid (Q7 ⟨o,ts⟩ [a,b,c,d,e] 0=RP ts[0] [a,b,c,d,e]):=by simp[Hid,Q7,u,List.getD_eq_getElem?_getD]
    have y:Hid (∀W,Calls prog 188 #[.agg #[.bool ts[0].var,ι (ts[0].num:Nat),ι (ts[0].level:Nat)],.agg #[ι a,ι b,ι c,ι d,ι e]] W fun r Z=>r=ε (ι ((Q7 ⟨o,ts⟩ [a,b,c,d,e] 0:Nat):Int))/\μ W Z):=fun W=>by rw[C.out];exact oW W ts[0] a b c d e
    clear S R Q C;generalize ts[0]=t at *;obtain⟨x,s⟩:∃x,x=Q7 ⟨o,ts⟩ [a,b,c,d,e] 0:=⟨_,rfl⟩;rw[←s] at y;have G:=Q5 s.symm;clear s;go_wp2;go_region_with (go_at_call 188;refine(y.out _).mono ?_;rintro r w2 ⟨rfl,J⟩;have m:μ wr w2:=(zQ (by go_grown) J (zg _));have f:=l.below m;obtain⟨T,V,P⟩:=f.boxed)
    all_goals
     have n:=f.set 0 (ι x);simp at n;have L:=(A.below m).set_ne (show w.heap.size≠w.heap.size+3 from by omega) 0 (ι x);have O:=(B.below m).set_ne (show w.heap.size+1≠w.heap.size+3 from by omega) 0 (ι x);have I:=(z.below m).set_ne (show w.heap.size+2≠w.heap.size+3 from by omega) 0 (ι x);have F:=(Q9 j m).setCell (p:=⟨w.heap.size+3,0,none⟩) (by simp) (ι x);go_wp2;go_roundw
     case rel=>exact⟨1,by omega,rfl,L,O,I,(by simp only[mV,G.out];exact n),F⟩
     case measure=>simp[intOf]
   ·have C:Hid (Q7 ⟨o,ts⟩ [a,b,c,d,e] 0=0):=by simp[Hid,Q7,u]
    have U:ts.length<=0:=by omega
    go_wp2;go_roundw
    case rel=>exact⟨1,by omega,rfl,A,B,z,(by have q:=l;simp only[mV,C.out];exact q),j⟩
    case measure=>simp[intOf]
  |1,_=>
   have l:Q6 wr (w.heap.size+3) #[ι ((Q7 ⟨o,ts⟩ [a,b,c,d,e] 0:Nat):Int),ι 0,ι 0] 165:=N;obtain⟨Y,X,aa⟩:=l.boxed;by_cases u:1<ts.length
   ·obtain⟨g,H,K,S,R,Q⟩:=h.cell 1 u;subst H;have M:=zl j K S;have D:=zl j K R;have E:=zl j K Q;simp only[Nat.reduceMul,Nat.reduceAdd] at M D E;have ab:g<wr.heap.size:=by omega
    have C:Hid (Q7 ⟨o,ts⟩ [a,b,c,d,e] 1=RP ts[1] [a,b,c,d,e]):=by simp[Hid,Q7,u,List.getD_eq_getElem?_getD]
    have y:Hid (∀W,Calls prog 188 #[.agg #[.bool ts[1].var,ι (ts[1].num:Nat),ι (ts[1].level:Nat)],.agg #[ι a,ι b,ι c,ι d,ι e]] W fun r Z=>r=ε (ι ((Q7 ⟨o,ts⟩ [a,b,c,d,e] 1:Nat):Int))/\μ W Z):=fun W=>by rw[C.out];exact oW W ts[1] a b c d e
    clear S R Q C;generalize ts[1]=t at *;obtain⟨x,s⟩:∃x,x=Q7 ⟨o,ts⟩ [a,b,c,d,e] 1:=⟨_,rfl⟩;rw[←s] at y;have G:=Q5 s.symm;clear s;go_wp2;go_region_with (go_at_call 188;refine(y.out _).mono ?_;rintro r w2 ⟨rfl,J⟩;have m:μ wr w2:=(zQ (by go_grown) J (zg _));have f:=l.below m;obtain⟨T,V,P⟩:=f.boxed)
    all_goals
     have n:=f.set 1 (ι x);simp at n;have L:=(A.below m).set_ne (show w.heap.size≠w.heap.size+3 from by omega) 1 (ι x);have O:=(B.below m).set_ne (show w.heap.size+1≠w.heap.size+3 from by omega) 1 (ι x);have I:=(z.below m).set_ne (show w.heap.size+2≠w.heap.size+3 from by omega) 1 (ι x);have F:=(Q9 j m).setCell (p:=⟨w.heap.size+3,1,none⟩) (by simp) (ι x);go_wp2;go_roundw
     case rel=>exact⟨2,by omega,rfl,L,O,I,(by simp only[mV,G.out];exact n),F⟩
     case measure=>simp[intOf]
   ·have C:Hid (Q7 ⟨o,ts⟩ [a,b,c,d,e] 1=0):=by simp[Hid,Q7,u]
    have U:ts.length<=1:=by omega
    go_wp2;go_roundw
    case rel=>exact⟨2,by omega,rfl,A,B,z,(by have q:=l;simp only[mV,C.out];exact q),j⟩
    case measure=>simp[intOf]
  |2,_=>
   have l:Q6 wr (w.heap.size+3) #[ι ((Q7 ⟨o,ts⟩ [a,b,c,d,e] 0:Nat):Int),ι ((Q7 ⟨o,ts⟩ [a,b,c,d,e] 1:Nat):Int),ι 0] 165:=N;obtain⟨Y,X,aa⟩:=l.boxed;by_cases u:2<ts.length
   ·obtain⟨g,H,K,S,R,Q⟩:=h.cell 2 u;subst H;have M:=zl j K S;have D:=zl j K R;have E:=zl j K Q;simp only[Nat.reduceMul,Nat.reduceAdd] at M D E;have ab:g<wr.heap.size:=by omega
    have C:Hid (Q7 ⟨o,ts⟩ [a,b,c,d,e] 2=RP ts[2] [a,b,c,d,e]):=by simp[Hid,Q7,u,List.getD_eq_getElem?_getD]
    have y:Hid (∀W,Calls prog 188 #[.agg #[.bool ts[2].var,ι (ts[2].num:Nat),ι (ts[2].level:Nat)],.agg #[ι a,ι b,ι c,ι d,ι e]] W fun r Z=>r=ε (ι ((Q7 ⟨o,ts⟩ [a,b,c,d,e] 2:Nat):Int))/\μ W Z):=fun W=>by rw[C.out];exact oW W ts[2] a b c d e
    clear S R Q C;generalize ts[2]=t at *;obtain⟨x,s⟩:∃x,x=Q7 ⟨o,ts⟩ [a,b,c,d,e] 2:=⟨_,rfl⟩;rw[←s] at y;have G:=Q5 s.symm;clear s;go_wp2;go_region_with (go_at_call 188;refine(y.out _).mono ?_;rintro r w2 ⟨rfl,J⟩;have m:μ wr w2:=(zQ (by go_grown) J (zg _));have f:=l.below m;obtain⟨T,V,P⟩:=f.boxed)
    all_goals
     have n:=f.set 2 (ι x);simp at n;have L:=(A.below m).set_ne (show w.heap.size≠w.heap.size+3 from by omega) 2 (ι x);have O:=(B.below m).set_ne (show w.heap.size+1≠w.heap.size+3 from by omega) 2 (ι x);have I:=(z.below m).set_ne (show w.heap.size+2≠w.heap.size+3 from by omega) 2 (ι x);have F:=(Q9 j m).setCell (p:=⟨w.heap.size+3,2,none⟩) (by simp) (ι x);go_wp2;go_roundw
     case rel=>exact⟨3,by omega,rfl,L,O,I,(by simp only[mV,G.out];exact n),F⟩
     case measure=>simp[intOf]
   ·have C:Hid (Q7 ⟨o,ts⟩ [a,b,c,d,e] 2=0):=by simp[Hid,Q7,u]
    have U:ts.length<=2:=by omega
    go_wp2;go_roundw
    case rel=>exact⟨3,by omega,rfl,A,B,z,(by have q:=l;simp only[mV,C.out];exact q),j⟩
    case measure=>simp[intOf]
  |3,_=>
   simp only[mV] at N;obtain⟨Y,X,aa⟩:=N.boxed;obtain⟨ac,am,ai⟩:=z.boxed;go_wp2;exact zL (v:=.agg #[ι ((Q7 ⟨o,ts⟩ [a,b,c,d,e] 0:Nat):Int),ι ((Q7 ⟨o,ts⟩ [a,b,c,d,e] 1:Nat):Int),ι ((Q7 ⟨o,ts⟩ [a,b,c,d,e] 2:Nat):Int)]) (by simp[results,results161,go_sem,ac]) rfl ⟨rfl,((j.setCell (p:=⟨w.heap.size+2,0,none⟩) (by simp) _).setCell (p:=⟨w.heap.size+2,1,none⟩) (by simp) _).setCell (p:=⟨w.heap.size+2,2,none⟩) (by simp) _⟩
def vg(l:zu)(row:zm):Nat->zm
 |0=>[0,0,0]
 |k+1=>qJ l row (vg l row k) k
theorem Gg{l:zu}{row f:zm}(a:uq l row=f):x6 l row=if (xu l row f 0&&xu l row f 1&&xu l row f 2)=true then some f else none:=by unfold x6;rw[a]
theorem K6(l:zu)(row:zm):uq l row=vg l row 3:=rfl
theorem P5(w:World)(v:Value)(B:Nat)(ts:List zZ)(j f r2:Nat)(h:yh lo w v ts):
  Calls prog 213 #[.agg #[ι B,v],So j f r2] w fun r E=>(∃x y z:Nat,r=ε (.tuple #[So x y z,.bool (x6 ⟨B,ts⟩ [j,f,r2]).isSome])/\[x,y,z]=(x6 ⟨B,ts⟩ [j,f,r2]).getD [0,0,0])/\μ w E:=by
 obtain⟨ao,af,rfl⟩:=h.qx;have hl:=h.len;have aC:=PZ (ι j) (ι f) (ι r2);have aD:=Qc (ι j) (ι f) (ι r2);have aA:=PY (ι j) (ι f) (ι r2);unfold So;go_enter func213,ntmps213;go_wp2;go_loopw [12] (fun a6 wr=>∃k x y z:Nat,k<=3/\a6=ι k/\Q6 wr w.heap.size #[ι B,.slice ao ts.length af] 204/\Q6 wr (w.heap.size+1) #[ι j,ι f,ι r2] 165/\Q6 wr (w.heap.size+2) #[ι 0,ι 0,ι 0] 165/\Q6 wr (w.heap.size+3) #[ι (x:Nat),ι (y:Nat),ι (z:Nat)] 165/\Hid (vg ⟨B,ts⟩ [j,f,r2] k=[x,y,z])/\μ w wr) (fun i _=>3-(intOf i).toNat)
 case atStart=>exact⟨0,0,0,0,by omega,rfl,(((Q6.new w _ _).below zT).below zT).below zT,((Q6.newAt _ _ _ _ (by simp)).below zT).below zT,(Q6.newAt _ _ _ _ (by simp)).below zT,Q6.newAt _ _ _ _ (by simp),rfl,(by go_grown)⟩
 case round=>
  obtain⟨k,x,y,z,hk,rfl,m,s,q,n,S,b⟩:=hrel;obtain⟨a0,a4,a3⟩:=m.boxed;obtain⟨az,au,a5⟩:=s.boxed;obtain⟨av,ay,ax⟩:=n.boxed;have ar:=b.size;match k,hk with
  |0,_=>
   by_cases D:0<ts.length
   ·have o:Hid (vg ⟨B,ts⟩ [j,f,r2] 1=if leveled ts[0]=true then [x,y,z].set ts[0].level j else [x,y,z]):=by
     rw[Hid,vg,S.out];simp[qJ,D,List.getD_eq_getElem?_getD]
    obtain⟨g,P,R,V,Y,h2⟩:=h.cell 0 D;subst P;have N:=zl b R V;have M:=zl b R Y;have K:=zl b R h2;simp only[Nat.reduceMul,Nat.reduceAdd] at N M K;have C:g<wr.heap.size:=by omega
    have Z:Hid (∀W,Calls prog 218 #[.agg #[.bool ts[0].var,ι (ts[0].num:Nat),ι (ts[0].level:Nat)]] W fun r E=>r=ε (.bool (leveled ts[0]))/\μ W E):=fun W=>sJ W ts[0];have O:leveled ts[0]=true->ts[0].level<3:=by simp[leveled]
    clear V Y h2;generalize ts[0]=t at *;generalize leveled t=lb at *;cases lb with
    |false=>
     simp only[gL,if_false] at o;go_wp2_with (go_at_call 218;refine(Z.out _).mono ?_;rintro r w2 ⟨rfl,c⟩)
     go_roundw
     case rel=>exact⟨1,x,y,z,by omega,rfl,m.below c,s.below c,q.below c,n.below c,o,Q9 b c⟩
     case measure=>simp[intOf]
    |true=>
     simp only[if_true] at o;have a2:=O rfl;clear O;generalize ah:t.level=lv at *;clear ah;go_wp2_with (go_at_call 218;refine(Z.out _).mono ?_;rintro r w2 ⟨rfl,c⟩;have a:=c;have u:=m.below c;obtain⟨U,ae,aa⟩:=u.boxed;have ai:=zl c C K;have A:=n.below c;obtain⟨T,ac,ad⟩:=A.boxed;have al:=(xP C c.size);obtain rfl|rfl|rfl:lv=0∨lv=1∨lv=2:=(by omega))
     ·have F:Hid (vg ⟨B,ts⟩ [j,f,r2] 1=[j,y,z]):=by rw[Hid,o.out];rfl
      have d:=(n.below a).set 0 (ι j);simp at d;have J:=(m.below a).set_ne (show w.heap.size≠w.heap.size+3 from by omega) 0 (ι j);have G:=(s.below a).set_ne (show w.heap.size+1≠w.heap.size+3 from by omega) 0 (ι j);have I:=(q.below a).set_ne (show w.heap.size+2≠w.heap.size+3 from by omega) 0 (ι j);have H:=(Q9 b a).setCell (p:=⟨w.heap.size+3,0,none⟩) (by simp) (ι j);go_wp2;go_roundw
      case rel=>exact⟨1,j,y,z,by omega,rfl,J,G,I,d,F,H⟩
      case measure=>simp[intOf]
     ·have F:Hid (vg ⟨B,ts⟩ [j,f,r2] 1=[x,j,z]):=by rw[Hid,o.out];rfl
      have d:=(n.below a).set 1 (ι j);simp at d;have J:=(m.below a).set_ne (show w.heap.size≠w.heap.size+3 from by omega) 1 (ι j);have G:=(s.below a).set_ne (show w.heap.size+1≠w.heap.size+3 from by omega) 1 (ι j);have I:=(q.below a).set_ne (show w.heap.size+2≠w.heap.size+3 from by omega) 1 (ι j);have H:=(Q9 b a).setCell (p:=⟨w.heap.size+3,1,none⟩) (by simp) (ι j);go_wp2;go_roundw
      case rel=>exact⟨1,x,j,z,by omega,rfl,J,G,I,d,F,H⟩
      case measure=>simp[intOf]
     ·have F:Hid (vg ⟨B,ts⟩ [j,f,r2] 1=[x,y,j]):=by rw[Hid,o.out];rfl
      have d:=(n.below a).set 2 (ι j);simp at d;have J:=(m.below a).set_ne (show w.heap.size≠w.heap.size+3 from by omega) 2 (ι j);have G:=(s.below a).set_ne (show w.heap.size+1≠w.heap.size+3 from by omega) 2 (ι j);have I:=(q.below a).set_ne (show w.heap.size+2≠w.heap.size+3 from by omega) 2 (ι j);have H:=(Q9 b a).setCell (p:=⟨w.heap.size+3,2,none⟩) (by simp) (ι j);go_wp2;go_roundw
      case rel=>exact⟨1,x,y,j,by omega,rfl,J,G,I,d,F,H⟩
      case measure=>simp[intOf]
   ·have o:Hid (vg ⟨B,ts⟩ [j,f,r2] 1=[x,y,z]):=by
     rw[Hid,vg,S.out];simp[qJ,D]
    have aq:ts.length<=0:=by omega
    go_wp2;go_roundw
    case rel=>exact⟨1,x,y,z,by omega,rfl,m,s,q,n,o,b⟩
    case measure=>simp[intOf]
  |1,_=>
   by_cases D:1<ts.length
   ·have o:Hid (vg ⟨B,ts⟩ [j,f,r2] 2=if leveled ts[1]=true then [x,y,z].set ts[1].level f else [x,y,z]):=by
     rw[Hid,vg,S.out];simp[qJ,D,List.getD_eq_getElem?_getD]
    obtain⟨g,P,R,V,Y,h2⟩:=h.cell 1 D;subst P;have N:=zl b R V;have M:=zl b R Y;have K:=zl b R h2;simp only[Nat.reduceMul,Nat.reduceAdd] at N M K;have C:g<wr.heap.size:=by omega
    have Z:Hid (∀W,Calls prog 218 #[.agg #[.bool ts[1].var,ι (ts[1].num:Nat),ι (ts[1].level:Nat)]] W fun r E=>r=ε (.bool (leveled ts[1]))/\μ W E):=fun W=>sJ W ts[1];have O:leveled ts[1]=true->ts[1].level<3:=by simp[leveled]
    clear V Y h2;generalize ts[1]=t at *;generalize leveled t=lb at *;cases lb with
    |false=>
     simp only[gL,if_false] at o;go_wp2_with (go_at_call 218;refine(Z.out _).mono ?_;rintro r w2 ⟨rfl,c⟩)
     go_roundw
     case rel=>exact⟨2,x,y,z,by omega,rfl,m.below c,s.below c,q.below c,n.below c,o,Q9 b c⟩
     case measure=>simp[intOf]
    |true=>
     simp only[if_true] at o;have a2:=O rfl;clear O;generalize ah:t.level=lv at *;clear ah;go_wp2_with (go_at_call 218;refine(Z.out _).mono ?_;rintro r w2 ⟨rfl,c⟩;have a:=c;have u:=m.below c;obtain⟨U,ae,aa⟩:=u.boxed;have ai:=zl c C K;have A:=n.below c;obtain⟨T,ac,ad⟩:=A.boxed;have al:=(xP C c.size);obtain rfl|rfl|rfl:lv=0∨lv=1∨lv=2:=(by omega))
     ·have F:Hid (vg ⟨B,ts⟩ [j,f,r2] 2=[f,y,z]):=by rw[Hid,o.out];rfl
      have d:=(n.below a).set 0 (ι f);simp at d;have J:=(m.below a).set_ne (show w.heap.size≠w.heap.size+3 from by omega) 0 (ι f);have G:=(s.below a).set_ne (show w.heap.size+1≠w.heap.size+3 from by omega) 0 (ι f);have I:=(q.below a).set_ne (show w.heap.size+2≠w.heap.size+3 from by omega) 0 (ι f);have H:=(Q9 b a).setCell (p:=⟨w.heap.size+3,0,none⟩) (by simp) (ι f);go_wp2;go_roundw
      case rel=>exact⟨2,f,y,z,by omega,rfl,J,G,I,d,F,H⟩
      case measure=>simp[intOf]
     ·have F:Hid (vg ⟨B,ts⟩ [j,f,r2] 2=[x,f,z]):=by rw[Hid,o.out];rfl
      have d:=(n.below a).set 1 (ι f);simp at d;have J:=(m.below a).set_ne (show w.heap.size≠w.heap.size+3 from by omega) 1 (ι f);have G:=(s.below a).set_ne (show w.heap.size+1≠w.heap.size+3 from by omega) 1 (ι f);have I:=(q.below a).set_ne (show w.heap.size+2≠w.heap.size+3 from by omega) 1 (ι f);have H:=(Q9 b a).setCell (p:=⟨w.heap.size+3,1,none⟩) (by simp) (ι f);go_wp2;go_roundw
      case rel=>exact⟨2,x,f,z,by omega,rfl,J,G,I,d,F,H⟩
      case measure=>simp[intOf]
     ·have F:Hid (vg ⟨B,ts⟩ [j,f,r2] 2=[x,y,f]):=by rw[Hid,o.out];rfl
      have d:=(n.below a).set 2 (ι f);simp at d;have J:=(m.below a).set_ne (show w.heap.size≠w.heap.size+3 from by omega) 2 (ι f);have G:=(s.below a).set_ne (show w.heap.size+1≠w.heap.size+3 from by omega) 2 (ι f);have I:=(q.below a).set_ne (show w.heap.size+2≠w.heap.size+3 from by omega) 2 (ι f);have H:=(Q9 b a).setCell (p:=⟨w.heap.size+3,2,none⟩) (by simp) (ι f);go_wp2;go_roundw
      case rel=>exact⟨2,x,y,f,by omega,rfl,J,G,I,d,F,H⟩
      case measure=>simp[intOf]
   ·have o:Hid (vg ⟨B,ts⟩ [j,f,r2] 2=[x,y,z]):=by
     rw[Hid,vg,S.out];simp[qJ,D]
    have aq:ts.length<=1:=by omega
    go_wp2;go_roundw
    case rel=>exact⟨2,x,y,z,by omega,rfl,m,s,q,n,o,b⟩
    case measure=>simp[intOf]
  |2,_=>
   by_cases D:2<ts.length
   ·have o:Hid (vg ⟨B,ts⟩ [j,f,r2] 3=if leveled ts[2]=true then [x,y,z].set ts[2].level r2 else [x,y,z]):=by
     rw[Hid,vg,S.out];simp[qJ,D,List.getD_eq_getElem?_getD]
    obtain⟨g,P,R,V,Y,h2⟩:=h.cell 2 D;subst P;have N:=zl b R V;have M:=zl b R Y;have K:=zl b R h2;simp only[Nat.reduceMul,Nat.reduceAdd] at N M K;have C:g<wr.heap.size:=by omega
    have Z:Hid (∀W,Calls prog 218 #[.agg #[.bool ts[2].var,ι (ts[2].num:Nat),ι (ts[2].level:Nat)]] W fun r E=>r=ε (.bool (leveled ts[2]))/\μ W E):=fun W=>sJ W ts[2];have O:leveled ts[2]=true->ts[2].level<3:=by simp[leveled]
    clear V Y h2;generalize ts[2]=t at *;generalize leveled t=lb at *;cases lb with
    |false=>
     simp only[gL,if_false] at o;go_wp2_with (go_at_call 218;refine(Z.out _).mono ?_;rintro r w2 ⟨rfl,c⟩)
     go_roundw
     case rel=>exact⟨3,x,y,z,by omega,rfl,m.below c,s.below c,q.below c,n.below c,o,Q9 b c⟩
     case measure=>simp[intOf]
    |true=>
     simp only[if_true] at o;have a2:=O rfl;clear O;generalize ah:t.level=lv at *;clear ah;go_wp2_with (go_at_call 218;refine(Z.out _).mono ?_;rintro r w2 ⟨rfl,c⟩;have a:=c;have u:=m.below c;obtain⟨U,ae,aa⟩:=u.boxed;have ai:=zl c C K;have A:=n.below c;obtain⟨T,ac,ad⟩:=A.boxed;have al:=(xP C c.size);obtain rfl|rfl|rfl:lv=0∨lv=1∨lv=2:=(by omega))
     ·have F:Hid (vg ⟨B,ts⟩ [j,f,r2] 3=[r2,y,z]):=by rw[Hid,o.out];rfl
      have d:=(n.below a).set 0 (ι r2);simp at d;have J:=(m.below a).set_ne (show w.heap.size≠w.heap.size+3 from by omega) 0 (ι r2);have G:=(s.below a).set_ne (show w.heap.size+1≠w.heap.size+3 from by omega) 0 (ι r2);have I:=(q.below a).set_ne (show w.heap.size+2≠w.heap.size+3 from by omega) 0 (ι r2);have H:=(Q9 b a).setCell (p:=⟨w.heap.size+3,0,none⟩) (by simp) (ι r2);go_wp2;go_roundw
      case rel=>exact⟨3,r2,y,z,by omega,rfl,J,G,I,d,F,H⟩
      case measure=>simp[intOf]
     ·have F:Hid (vg ⟨B,ts⟩ [j,f,r2] 3=[x,r2,z]):=by rw[Hid,o.out];rfl
      have d:=(n.below a).set 1 (ι r2);simp at d;have J:=(m.below a).set_ne (show w.heap.size≠w.heap.size+3 from by omega) 1 (ι r2);have G:=(s.below a).set_ne (show w.heap.size+1≠w.heap.size+3 from by omega) 1 (ι r2);have I:=(q.below a).set_ne (show w.heap.size+2≠w.heap.size+3 from by omega) 1 (ι r2);have H:=(Q9 b a).setCell (p:=⟨w.heap.size+3,1,none⟩) (by simp) (ι r2);go_wp2;go_roundw
      case rel=>exact⟨3,x,r2,z,by omega,rfl,J,G,I,d,F,H⟩
      case measure=>simp[intOf]
     ·have F:Hid (vg ⟨B,ts⟩ [j,f,r2] 3=[x,y,r2]):=by rw[Hid,o.out];rfl
      have d:=(n.below a).set 2 (ι r2);simp at d;have J:=(m.below a).set_ne (show w.heap.size≠w.heap.size+3 from by omega) 2 (ι r2);have G:=(s.below a).set_ne (show w.heap.size+1≠w.heap.size+3 from by omega) 2 (ι r2);have I:=(q.below a).set_ne (show w.heap.size+2≠w.heap.size+3 from by omega) 2 (ι r2);have H:=(Q9 b a).setCell (p:=⟨w.heap.size+3,2,none⟩) (by simp) (ι r2);go_wp2;go_roundw
      case rel=>exact⟨3,x,y,r2,by omega,rfl,J,G,I,d,F,H⟩
      case measure=>simp[intOf]
   ·have o:Hid (vg ⟨B,ts⟩ [j,f,r2] 3=[x,y,z]):=by
     rw[Hid,vg,S.out];simp[qJ,D]
    have aq:ts.length<=2:=by omega
    go_wp2;go_roundw
    case rel=>exact⟨3,x,y,z,by omega,rfl,m,s,q,n,o,b⟩
    case measure=>simp[intOf]
  |3,_=>
   have HM:Hid (x6 ⟨B,ts⟩ [j,f,r2]=if (xu ⟨B,ts⟩ [j,f,r2] [x,y,z] 0&&xu ⟨B,ts⟩ [j,f,r2] [x,y,z] 1&&xu ⟨B,ts⟩ [j,f,r2] [x,y,z] 2)=true then some [x,y,z] else none):=Gg ((K6 _ _).trans S.out);clear S;rw[show((3:Nat):Int)=3 from rfl];go_wp2;have o:Hid (Q6 wr w.heap.size #[ι B,.slice ao ts.length af] 204/\Q6 wr (w.heap.size+1) #[ι j,ι f,ι r2] 165/\Q6 wr (w.heap.size+2) #[ι 0,ι 0,ι 0] 165/\Q6 wr (w.heap.size+3) #[ι x,ι y,ι z] 165/\μ w wr):=⟨m,s,q,n,b⟩;clear a0 a4 a3 az au a5 av ay ax ar m s q n b;go_loopw [39] (fun a8 wr=>∃k:Nat,k<=3/\a8=ι k/\Q6 wr w.heap.size #[ι B,.slice ao ts.length af] 204/\Q6 wr (w.heap.size+1) #[ι j,ι f,ι r2] 165/\Q6 wr (w.heap.size+2) #[ι 0,ι 0,ι 0] 165/\Q6 wr (w.heap.size+3) #[ι x,ι y,ι z] 165/\Hid (∀i,i<k->xu ⟨B,ts⟩ [j,f,r2] [x,y,z] i=true)/\μ w wr) (fun i _=>3-(intOf i).toNat)
   case atStart=>
    obtain⟨q1,q2,q3,q4,q5⟩:=o.out;exact⟨0,by omega,rfl,q1,q2,q3,q4,(fun i hi=>by omega),q5⟩
   case round=>
    clear o;obtain⟨k,hk,rfl,m,s,q,n,HA,b⟩:=hrel;obtain⟨a0,a4,a3⟩:=m.boxed;obtain⟨az,au,a5⟩:=s.boxed;obtain⟨av,ay,ax⟩:=n.boxed;obtain⟨a7,aB,a9⟩:=q.boxed;have ar:=b.size;match k,hk with
    |0,_=>
     by_cases D:0<ts.length
     ·have L:Hid (xu ⟨B,ts⟩ [j,f,r2] [x,y,z] 0=j5 ts[0] j [x,y,z]):=by unfold xu;rw[Hid,decide_eq_false (show ¬ts.length<=0 by omega)];simp[List.getD_eq_getElem?_getD,D]
      obtain⟨g,P,R,V,Y,h2⟩:=h.cell 0 D;subst P;have N:=zl b R V;have M:=zl b R Y;have K:=zl b R h2;simp only[Nat.reduceMul,Nat.reduceAdd] at N M K;have C:g<wr.heap.size:=by omega
      have am:(0:Int)<(ts.length:Int):=by omega
      have aj:Hid (∀W,Calls prog 219 #[.agg #[.bool ts[0].var,ι (ts[0].num:Nat),ι (ts[0].level:Nat)],ι j,.agg #[ι x,ι y,ι z]] W fun r E=>r=ε (.bool (j5 ts[0] j [x,y,z]))/\μ W E):=fun W=>iQ W ts[0] j x y z;clear V Y h2;generalize ts[0]=t at *;generalize j5 t j [x,y,z]=ab at *;go_wp2;go_region_held3 (fun E=>E.cell? ⟨w.heap.size,1,none⟩=some (.slice (some ⟨g,0,none⟩) ts.length af)/\E.cell? ⟨g,0,none⟩=some (.bool t.var)/\E.cell? ⟨g,1,none⟩=some (ι t.num)/\E.cell? ⟨g,2,none⟩=some (ι t.level)/\E.cell? ⟨w.heap.size+1+1+1,0,none⟩=some (ι x)/\E.cell? ⟨w.heap.size+1+1+1,1,none⟩=some (ι y)/\E.cell? ⟨w.heap.size+1+1+1,2,none⟩=some (ι z)) (first|go_keep|(go_simp;done)) (go_at_call 219;refine(aj.out _).mono ?_;rintro r w2 ⟨rfl,c⟩;have l:μ wr w2:=(zQ (by go_grown) c (zg _));have u:=m.below l;obtain⟨U,ae,aa⟩:=u.boxed;have A:=n.below l;obtain⟨T,ac,ad⟩:=A.boxed;have a1:=zl l C N;have aw:=zl l C M;have ai:=(zl l C K))
      cases ab with
      |true=>
       have Q:Hid (∀i,i<1->xu ⟨B,ts⟩ [j,f,r2] [x,y,z] i=true):=fun i hi=>by
        by_cases e:i=0
        ·subst e;exact L.out
        ·exact HA.out i (by omega)
       go_wp2;go_roundw
       case rel=>exact⟨1,by omega,rfl,u,s.below l,q.below l,A,Q,Q9 b l⟩
       case measure=>simp[intOf]
      |false=>
       have S:Hid (x6 ⟨B,ts⟩ [j,f,r2]=none):=by rw[Hid,HM.out,L.out];simp
       have ag:=q.below l;obtain⟨X,an,ak⟩:=ag.boxed;go_wp2;exact zL (v:=.tuple #[.agg #[ι 0,ι 0,ι 0],.bool false]) (by simp[results,results213,go_sem,X]) rfl ⟨⟨0,0,0,by rw[S.out];rfl,by rw[S.out];rfl⟩,(((Q9 b l).setCell (p:=⟨w.heap.size+2,0,none⟩) (by simp) _).setCell (p:=⟨w.heap.size+2,1,none⟩) (by simp) _).setCell (p:=⟨w.heap.size+2,2,none⟩) (by simp) _⟩
     ·have L:Hid (xu ⟨B,ts⟩ [j,f,r2] [x,y,z] 0=true):=by unfold xu;rw[Hid,decide_eq_true (show ts.length<=0 by omega)];rfl
      have Q:Hid (∀i,i<1->xu ⟨B,ts⟩ [j,f,r2] [x,y,z] i=true):=fun i hi=>by
       by_cases e:i=0
       ·subst e;exact L.out
       ·exact HA.out i (by omega)
      have ap:decide ((0:Int)<(ts.length:Int))=false:=decide_eq_false (by omega);go_wp2;go_quiet (fail)
      go_wp2;go_roundw
      case rel=>exact⟨1,by omega,rfl,m.below (zJ (zo _ _) _),s.below (zJ (zo _ _) _),q.below (zJ (zo _ _) _),n.below (zJ (zo _ _) _),Q,zJ b _⟩
      case measure=>simp[intOf]
    |1,_=>
     by_cases D:1<ts.length
     ·have L:Hid (xu ⟨B,ts⟩ [j,f,r2] [x,y,z] 1=j5 ts[1] f [x,y,z]):=by unfold xu;rw[Hid,decide_eq_false (show ¬ts.length<=1 by omega)];simp[List.getD_eq_getElem?_getD,D]
      obtain⟨g,P,R,V,Y,h2⟩:=h.cell 1 D;subst P;have N:=zl b R V;have M:=zl b R Y;have K:=zl b R h2;simp only[Nat.reduceMul,Nat.reduceAdd] at N M K;have C:g<wr.heap.size:=by omega
      have am:(1:Int)<(ts.length:Int):=by omega
      have aj:Hid (∀W,Calls prog 219 #[.agg #[.bool ts[1].var,ι (ts[1].num:Nat),ι (ts[1].level:Nat)],ι f,.agg #[ι x,ι y,ι z]] W fun r E=>r=ε (.bool (j5 ts[1] f [x,y,z]))/\μ W E):=fun W=>iQ W ts[1] f x y z;clear V Y h2;generalize ts[1]=t at *;generalize j5 t f [x,y,z]=ab at *;go_wp2;go_region_held3 (fun E=>E.cell? ⟨w.heap.size,1,none⟩=some (.slice (some ⟨g,0,none⟩) ts.length af)/\E.cell? ⟨g,3,none⟩=some (.bool t.var)/\E.cell? ⟨g,4,none⟩=some (ι t.num)/\E.cell? ⟨g,5,none⟩=some (ι t.level)/\E.cell? ⟨w.heap.size+1+1+1,0,none⟩=some (ι x)/\E.cell? ⟨w.heap.size+1+1+1,1,none⟩=some (ι y)/\E.cell? ⟨w.heap.size+1+1+1,2,none⟩=some (ι z)) (first|go_keep|(go_simp;done)) (go_at_call 219;refine(aj.out _).mono ?_;rintro r w2 ⟨rfl,c⟩;have l:μ wr w2:=(zQ (by go_grown) c (zg _));have u:=m.below l;obtain⟨U,ae,aa⟩:=u.boxed;have A:=n.below l;obtain⟨T,ac,ad⟩:=A.boxed;have a1:=zl l C N;have aw:=zl l C M;have ai:=(zl l C K))
      cases ab with
      |true=>
       have Q:Hid (∀i,i<2->xu ⟨B,ts⟩ [j,f,r2] [x,y,z] i=true):=fun i hi=>by
        by_cases e:i=1
        ·subst e;exact L.out
        ·exact HA.out i (by omega)
       go_wp2;go_roundw
       case rel=>exact⟨2,by omega,rfl,u,s.below l,q.below l,A,Q,Q9 b l⟩
       case measure=>simp[intOf]
      |false=>
       have S:Hid (x6 ⟨B,ts⟩ [j,f,r2]=none):=by rw[Hid,HM.out,L.out];simp
       have ag:=q.below l;obtain⟨X,an,ak⟩:=ag.boxed;go_wp2;exact zL (v:=.tuple #[.agg #[ι 0,ι 0,ι 0],.bool false]) (by simp[results,results213,go_sem,X]) rfl ⟨⟨0,0,0,by rw[S.out];rfl,by rw[S.out];rfl⟩,(((Q9 b l).setCell (p:=⟨w.heap.size+2,0,none⟩) (by simp) _).setCell (p:=⟨w.heap.size+2,1,none⟩) (by simp) _).setCell (p:=⟨w.heap.size+2,2,none⟩) (by simp) _⟩
     ·have L:Hid (xu ⟨B,ts⟩ [j,f,r2] [x,y,z] 1=true):=by unfold xu;rw[Hid,decide_eq_true (show ts.length<=1 by omega)];rfl
      have Q:Hid (∀i,i<2->xu ⟨B,ts⟩ [j,f,r2] [x,y,z] i=true):=fun i hi=>by
       by_cases e:i=1
       ·subst e;exact L.out
       ·exact HA.out i (by omega)
      have ap:decide ((1:Int)<(ts.length:Int))=false:=decide_eq_false (by omega);go_wp2;go_quiet (fail)
      go_wp2;go_roundw
      case rel=>exact⟨2,by omega,rfl,m.below (zJ (zo _ _) _),s.below (zJ (zo _ _) _),q.below (zJ (zo _ _) _),n.below (zJ (zo _ _) _),Q,zJ b _⟩
      case measure=>simp[intOf]
    |2,_=>
     by_cases D:2<ts.length
     ·have L:Hid (xu ⟨B,ts⟩ [j,f,r2] [x,y,z] 2=j5 ts[2] r2 [x,y,z]):=by unfold xu;rw[Hid,decide_eq_false (show ¬ts.length<=2 by omega)];simp[List.getD_eq_getElem?_getD,D]
      obtain⟨g,P,R,V,Y,h2⟩:=h.cell 2 D;subst P;have N:=zl b R V;have M:=zl b R Y;have K:=zl b R h2;simp only[Nat.reduceMul,Nat.reduceAdd] at N M K;have C:g<wr.heap.size:=by omega
      have am:(2:Int)<(ts.length:Int):=by omega
      have aj:Hid (∀W,Calls prog 219 #[.agg #[.bool ts[2].var,ι (ts[2].num:Nat),ι (ts[2].level:Nat)],ι r2,.agg #[ι x,ι y,ι z]] W fun r E=>r=ε (.bool (j5 ts[2] r2 [x,y,z]))/\μ W E):=fun W=>iQ W ts[2] r2 x y z;clear V Y h2;generalize ts[2]=t at *;generalize j5 t r2 [x,y,z]=ab at *;go_wp2;go_region_held3 (fun E=>E.cell? ⟨w.heap.size,1,none⟩=some (.slice (some ⟨g,0,none⟩) ts.length af)/\E.cell? ⟨g,6,none⟩=some (.bool t.var)/\E.cell? ⟨g,7,none⟩=some (ι t.num)/\E.cell? ⟨g,8,none⟩=some (ι t.level)/\E.cell? ⟨w.heap.size+1+1+1,0,none⟩=some (ι x)/\E.cell? ⟨w.heap.size+1+1+1,1,none⟩=some (ι y)/\E.cell? ⟨w.heap.size+1+1+1,2,none⟩=some (ι z)) (first|go_keep|(go_simp;done)) (go_at_call 219;refine(aj.out _).mono ?_;rintro r w2 ⟨rfl,c⟩;have l:μ wr w2:=(zQ (by go_grown) c (zg _));have u:=m.below l;obtain⟨U,ae,aa⟩:=u.boxed;have A:=n.below l;obtain⟨T,ac,ad⟩:=A.boxed;have a1:=zl l C N;have aw:=zl l C M;have ai:=(zl l C K))
      cases ab with
      |true=>
       have Q:Hid (∀i,i<3->xu ⟨B,ts⟩ [j,f,r2] [x,y,z] i=true):=fun i hi=>by
        by_cases e:i=2
        ·subst e;exact L.out
        ·exact HA.out i (by omega)
       go_wp2;go_roundw
       case rel=>exact⟨3,by omega,rfl,u,s.below l,q.below l,A,Q,Q9 b l⟩
       case measure=>simp[intOf]
      |false=>
       have S:Hid (x6 ⟨B,ts⟩ [j,f,r2]=none):=by rw[Hid,HM.out,L.out];simp
       have ag:=q.below l;obtain⟨X,an,ak⟩:=ag.boxed;go_wp2;exact zL (v:=.tuple #[.agg #[ι 0,ι 0,ι 0],.bool false]) (by simp[results,results213,go_sem,X]) rfl ⟨⟨0,0,0,by rw[S.out];rfl,by rw[S.out];rfl⟩,(((Q9 b l).setCell (p:=⟨w.heap.size+2,0,none⟩) (by simp) _).setCell (p:=⟨w.heap.size+2,1,none⟩) (by simp) _).setCell (p:=⟨w.heap.size+2,2,none⟩) (by simp) _⟩
     ·have L:Hid (xu ⟨B,ts⟩ [j,f,r2] [x,y,z] 2=true):=by unfold xu;rw[Hid,decide_eq_true (show ts.length<=2 by omega)];rfl
      have Q:Hid (∀i,i<3->xu ⟨B,ts⟩ [j,f,r2] [x,y,z] i=true):=fun i hi=>by
       by_cases e:i=2
       ·subst e;exact L.out
       ·exact HA.out i (by omega)
      have ap:decide ((2:Int)<(ts.length:Int))=false:=decide_eq_false (by omega);go_wp2;go_quiet (fail)
      go_wp2;go_roundw
      case rel=>exact⟨3,by omega,rfl,m.below (zJ (zo _ _) _),s.below (zJ (zo _ _) _),q.below (zJ (zo _ _) _),n.below (zJ (zo _ _) _),Q,zJ b _⟩
      case measure=>simp[intOf]
    |3,_=>
     have S:Hid (x6 ⟨B,ts⟩ [j,f,r2]=some [x,y,z]):=by rw[Hid,HM.out,HA.out 0 (by omega),HA.out 1 (by omega),HA.out 2 (by omega)];rfl
     go_wp2;exact zL (v:=.tuple #[.agg #[ι x,ι y,ι z],.bool true]) (by simp[results,results213,go_sem,a7]) rfl ⟨⟨x,y,z,by rw[S.out];rfl,by rw[S.out];rfl⟩,((b.setCell (p:=⟨w.heap.size+2,0,none⟩) (by simp) _).setCell (p:=⟨w.heap.size+2,1,none⟩) (by simp) _).setCell (p:=⟨w.heap.size+2,2,none⟩) (by simp) _⟩
def gR(ps:List (Nat×Value)):List Value:=ps.flatMap fun x=>[ι (x.1:Nat),x.2]
theorem E7:∀(ps:List (Nat×Value)) (k:Nat) (a:k<ps.length),(gR ps)[k*2]?=some (ι (ps[k].1:Nat))/\(gR ps)[k*2+1]?=some ps[k].2
 |[],k,a=>by simp at a
 |p::r,0,_=>by simp[gR]
 |p::r,k+1,a=>by
  have:=E7 r k (by simpa using a);simp only[gR,uw] at this ⊢;rw[show(k+1)*2=k*2+1+1 from by omega,show k*2+1+1+1=k*2+1+1+1 from rfl];simpa using this
def uc(lo:Nat)(w:World)(v:Value)(a:List zu):Prop:=∃b:List (Nat×Value),w.ownsRow lo 204 2 v a.length (gR b)/\b.length=a.length/\a.length<=1000/\∀k (d:k<a.length) (c:k<b.length),b[k].1=a[k].pred/\yh lo w b[k].2 a[k].qg/\a[k].pred<=1000000
theorem uc.below{w w':World}{v:Value}{e:List zu}(h:uc lo w v e)(d:μ w w'):uc lo w' v e:=by
 obtain⟨f,g,j,i,c⟩:=h;exact⟨f,zB g d,j,i,fun k a b=>⟨(c k a b).1,(c k a b).2.1.below d,(c k a b).2.2⟩⟩
theorem uc.qx{w:World}{v:Value}{b:List zu}(h:uc lo w v b):∃d a,v=.slice d b.length a:=by obtain⟨e,c,_⟩:=h;exact zp c
theorem uc.len{w:World}{v:Value}{a:List zu}(h:uc lo w v a):a.length<=1000:=by obtain⟨c,_,_,b,_⟩:=h;exact b
theorem uc.cell{w:World}{i:Option Addr}{n cap:Nat}{c:List zu}(h:uc lo w (.slice i n cap) c)(k:Nat)(p:k<c.length):∃g b a,i=some ⟨g,0,none⟩/\g<w.heap.size/\w.cell? ⟨g,k*2,none⟩=some (ι (c[k].pred:Nat))/\w.cell? ⟨g,k*2+1,none⟩=some (.slice b c[k].qg.length a)/\yh lo w (.slice b c[k].qg.length a) c[k].qg:=by
 obtain⟨o,s,y,z,q⟩:=h;obtain⟨g,l,j,_,r,e⟩:=yv s (by omega);simp only[Value.slice.injEq] at j;obtain⟨rfl,_,_⟩:=j;obtain⟨v,t⟩:=E7 o k (by omega);obtain⟨x,d,_⟩:=q k p (by omega);obtain⟨b,a,u⟩:=d.qx;have m:=e _ _ v;have f:=e _ _ t;rw[x] at m;rw[u] at f d;exact⟨g,b,a,rfl,r,m,f,d⟩
structure vm (lo:Nat) (w:World) (tv pv nv:Value) (r:zr):Prop where
 head:yh lo w tv r.head.qg
 qc:uc lo w pv r.qc
 qp:uc lo w nv r.qp
 small:r.qh<=1000000/\r.vars<=1000000/\r.head.pred<=1000000
theorem vm.below{w w':World}{tv b c:Value}{r:zr}(h:vm lo w tv b c r)(a:μ w w'):vm lo w' tv b c r:=⟨h.head.below a,h.qc.below a,h.qp.below a,h.small⟩
def kL(r:zr)(tv a b:Value):Value:=.agg #[ι r.qh,ι r.vars,ι r.head.pred,tv,a,b]
theorem NF(w:World)(tv pv nv:Value)(r:zr)(a:Int)(h:vm lo w tv pv nv r):
  Calls prog 220 #[kL r tv pv nv,ι a] w fun e B=>e=ε (ι (xy r a))/\μ w B:=by
 obtain⟨J,u,rfl⟩:=h.head.qx;obtain⟨af,G,rfl⟩:=h.qc.qx;obtain⟨ag,O,rfl⟩:=h.qp.qx;have am:=h.qc.len;have an:=h.qp.len;have aj:Hid (∀W,μ w W->Calls prog 225 #[.agg #[ι r.head.pred,.slice J r.head.qg.length u],ι a] W fun e B=>e=ε (ι (jT r.head a))/\μ W B):=fun W I=>Ai W _ r.head.pred a r.head.qg (h.head.below I);have hP:=h.qc;have hN:=h.qp;have HE:Hid (xy r a=r.qp.foldl (vU a) (r.qc.foldl (vU a) (jT r.head a))):=rfl;unfold kL;clear h;have F:=Q6.new w #[ι r.qh,ι r.vars,ι r.head.pred,.slice J r.head.qg.length u,.slice af r.qc.length G,.slice ag r.qp.length O] 207;generalize jT r.head a=R at *;generalize r.qc=b at *;generalize r.qp=c at *;go_enter func220,ntmps220;go_wp2_with (go_at_call 225;refine(aj.out _ (by exact(by go_grown))).mono ?_;rintro e w1 ⟨rfl,A⟩;have V:μ w w1:=zQ (by go_grown) A (zg _);have s:=F.below A;obtain⟨ak,ab,ai⟩:=s.boxed)
 clear ak ab ai F A;go_loopw [5,19] (fun Y T wr=>∃k:Nat,k<=b.length/\T=ι k/\Y=ι ((b.take k).foldl (vU a) R)/\μ w1 wr) (fun _ i _=>b.length-(intOf i).toNat)
 case atStart=>exact⟨0,zv _,rfl,rfl,zo _ _⟩
 case round=>
  obtain⟨k,hk,rfl,rfl,p⟩:=hrel;have o:=Q9 V p;have al:=o.size;by_cases Q:k<b.length
  ·obtain⟨g,C,j,y,K,M,L,P⟩:=hP.cell k Q;subst y;have ae:=zl o K M;have S:=zl o K L;have aa:g<wr.heap.size:=by omega
   have H:=Q5 (rD b (vU a) R k Q);have n:Hid (∀W,μ w W->Calls prog 226 #[.agg #[ι (b[k].pred:Nat),.slice C b[k].qg.length j],ι a] W fun e B=>e=ε (ι (qz b[k] a))/\μ W B):=fun W I=>Dr W _ b[k].pred a b[k].qg (P.below I);clear M L P;generalize b[k]=l at *;generalize (b.take k).foldl (vU a) R=q at *;have f:Hid (vU a q l=if qz l a>q then qz l a else q):=rfl;generalize qz l a=ti at *;by_cases m:ti>q
   ·rw[zc m] at f;go_wp2_with (go_at_call 226;refine(n.out _ (by exact(by go_grown))).mono ?_;rintro e E ⟨rfl,z⟩;have D:μ wr E:=(zQ (by go_grown) z (zg _)))
    go_roundw
    case rel=>exact⟨k+1,by omega,by go_num,by rw[H.out,f.out],Q9 p D⟩
    case measure=>simp[intOf];omega
   ·rw[za m] at f;go_wp2_with (go_at_call 226;refine(n.out _ (by exact(by go_grown))).mono ?_;rintro e E ⟨rfl,z⟩;have D:μ wr E:=(zQ (by go_grown) z (zg _)))
    go_roundw
    case rel=>exact⟨k+1,by omega,by go_num,by rw[H.out,f.out],Q9 p D⟩
    case measure=>simp[intOf];omega
  ·obtain rfl:k=b.length:=by omega
   rw[vw];generalize b.foldl (vU a) R=pb at *;have N:=s.below p;obtain⟨U,ah,ad⟩:=N.boxed;go_wp2;clear U ah ad;obtain⟨E,X⟩:∃E,E=wr:=⟨wr,rfl⟩;subst X;go_loopw [5,34] (fun Y Z wr=>∃k:Nat,k<=c.length/\Z=ι k/\Y=ι ((c.take k).foldl (vU a) pb)/\μ w wr) (fun _ i _=>c.length-(intOf i).toNat)
   case atStart=>exact⟨0,zv _,rfl,rfl,o⟩
   case round=>
    obtain⟨k,hk,rfl,rfl,d⟩:=hrel;have ac:=d.size;by_cases t:k<c.length
    ·obtain⟨g,C,j,y,K,M,L,P⟩:=hN.cell k t;subst y;have ae:=zl d K M;have S:=zl d K L;have aa:g<wr.heap.size:=by omega
     have H:=Q5 (rD c (vU a) pb k t);have n:Hid (∀W,μ w W->Calls prog 226 #[.agg #[ι (c[k].pred:Nat),.slice C c[k].qg.length j],ι a] W fun e B=>e=ε (ι (qz c[k] a))/\μ W B):=fun W I=>Dr W _ c[k].pred a c[k].qg (P.below I);clear M L P;generalize c[k]=l at *;generalize (c.take k).foldl (vU a) pb=q at *;have f:Hid (vU a q l=if qz l a>q then qz l a else q):=rfl;generalize qz l a=ti at *;by_cases m:ti>q
     ·rw[zc m] at f;go_wp2_with (go_at_call 226;refine(n.out _ (by exact(by go_grown))).mono ?_;rintro e w3 ⟨rfl,v⟩;have x:μ wr w3:=(zQ (by go_grown) v (zg _)))
      go_roundw
      case rel=>exact⟨k+1,by omega,by go_num,by rw[H.out,f.out],Q9 d x⟩
      case measure=>simp[intOf];omega
     ·rw[za m] at f;go_wp2_with (go_at_call 226;refine(n.out _ (by exact(by go_grown))).mono ?_;rintro e w3 ⟨rfl,v⟩;have x:μ wr w3:=(zQ (by go_grown) v (zg _)))
      go_roundw
      case rel=>exact⟨k+1,by omega,by go_num,by rw[H.out,f.out],Q9 d x⟩
      case measure=>simp[intOf];omega
    ·obtain rfl:k=c.length:=by omega
     rw[vw];go_wp2;go_ret;exact⟨by rw[HE.out];rfl,d⟩
end
end Go.Proofs.YteampbddflhngaaGreat
