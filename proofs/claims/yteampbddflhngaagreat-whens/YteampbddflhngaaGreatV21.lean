import Derived.Test.YteampbddflhngaaGreatV18
namespace Go.Proofs.YteampbddflhngaaGreat
set_option maxRecDepth 100000
set_option maxHeartbeats 8000000
open Go.Proofs.Tryz Go.RowKit
section
variable {lo:Nat}
theorem OH:(prog.info? 165).map (fun i=>(i.zero,i.size,i.bytes))=some (some (.agg #[.int .i64 0,.int .i64 0,.int .i64 0]),3,24):=by kernel_rfl
def qX(rs:List zk):List Value:=rs.flatMap (·.map PF)
def Pq(lo:Nat)(w:World)(v:Value)(rs:List zk):Prop:=w.ownsRow lo 165 3 v rs.length (qX rs)/\∀r∈rs,r.length=3
def uN(B:Nat)(w:World)(c tb:Nat)(row:zk)(a:List zk):Prop:=∃(x y z:Nat) (b:Value),row=[x,y,z]/\B<=c/\OZ w c #[.pointer (some ⟨tb,0,none⟩),.int .i64 x,.int .i64 y,.int .i64 z,b] 223/\Pq B w b a
theorem ta{T:zi}{a f v:Nat}(h:yF T a f=some v):v<T.qf:=by
 unfold yF at h;split at h
 ·simp only at h;split at h
  ·cases h
  ·simp only[zs] at h;omega
 ·cases h
theorem lz(T:zi):∀(n a level f:Nat) (row:zk) (b:List zk) (c:zk×List zk),xG T n a level f row b=some c->b.length<=c.2.length
 |0,_,_,_,_,_,_,h=>by simp[xG] at h
 |n+1,a,level,f,row,b,c,h=>by
  unfold xG at h;split at h
  ·simp at h;subst h;simp
  ·rename_i v j;simp only at h;split at h
   ·have:=lz T n _ _ _ _ _ _ h;simp at this;omega
   ·split at h
    ·exact lz T n _ _ _ _ _ _ h
    ·split at h
     ·cases h
     ·rename_i e d g;have i:=lz T n _ _ _ _ _ _ g;have k:=lz T n _ _ _ _ _ _ h;simp at i;omega
theorem NX(c:World)(tb:Nat)(T:zi)(fp:List Nat)(ht:zX lo c tb T fp)(d n:Nat)(ih:(∀m,m<n->∀(w:World) (a level:Nat) (row:zk) (i:List zk) (g:zk×List zk),xG T m a level 0 row i=some g->level<3->g.2.length<=1048576->Below c.heap.size c w->uN c.heap.size w d tb row i->Calls prog 127 #[.pointer (some ⟨d,0,none⟩),.int .i64 a,.int .i64 level] w fun e j=>e=.returned (.tuple #[])/\uN c.heap.size j d tb g.1 g.2/\Below c.heap.size c j))(w:World)(a:Nat)(row:zk)(i:List zk)(g:zk×List zk)(Q:xG T n a 0 0 row i=some g)(a4:g.2.length<=1048576)(aa:Below c.heap.size c w)(H:uN c.heap.size w d tb row i):
  Calls prog 127 #[.pointer (some ⟨d,0,none⟩),.int .i64 a,.int .i64 0] w fun e j=>e=.returned (.tuple #[])/\uN c.heap.size j d tb g.1 g.2/\Below c.heap.size c j:=by
 have HI:=OY ih;clear ih;have HL:Hid (∀W f,Below c.heap.size c W->Calls prog 167 #[.pointer (some ⟨tb,0,none⟩),.int .i64 a,.int .i64 ((f:Nat):Int)] W fun e j=>e=.returned (.tuple #[.int .i64 (((yF T a f).getD 0:Nat):Int),.bool (yF T a f).isSome])/\j=W):=fun W f hW=>rn W tb T fp a f (ht.below hW);have HD:Hid (∀W v,Below c.heap.size c W->Calls prog 130 #[.pointer (some ⟨tb,0,none⟩),.int .i64 a,.int .i64 ((v:Nat):Int)] W fun e j=>e=.returned (.tuple #[.int .i64 (((zH T a v).getD 0:Nat):Int),.bool (zH T a v).isSome])/\j=W):=fun W v hW=>m8 W tb T fp a v (ht.below hW);have a8:T.ql<=3:=by obtain⟨nv,ns,h1,_⟩:=ht;exact h1.deep
 have aG:T.qf<=1000:=by obtain⟨nv,ns,h1,_⟩:=ht;exact h1.wide
 have A:∃nv,OZ c tb #[.int .i64 T.qf,.int .i64 T.ql,nv,.int .i64 T.count] 229:=by obtain⟨nv,ns,h1,_⟩:=ht;exact⟨nv,h1.box⟩
 obtain⟨nv,A⟩:=A;clear ht;have ai:=OY H;have R:=OY Q;obtain⟨x,y,z,rv,aw,t,o,aq,au⟩:=H;clear aw aq au Q;obtain⟨K,L,X⟩:=o.boxed;go_enter func127,ntmps127;go_wp2_with (first|(go_at_call 167;refine(HL.out w 0 aa).mono ?_;rintro e j ⟨rfl,l⟩;obtain rfl:=l.symm;clear l))
 clear K L X o;go_loopg [6,7] n (fun k v6 v7 wr=>∃(f:Nat) (I:zk) (b:List zk),v6=.int .i64 (((yF T a f).getD 0:Nat):Int)/\v7=.bool (yF T a f).isSome/\Hid (uN c.heap.size wr d tb I b)/\Hid (xG T k a 0 f I b=some g)/\k<=n/\Below c.heap.size c wr)
 case atStart=>exact⟨0,row,i,rfl,rfl,ai,R,zh _,aa⟩
 case round=>
  clear ai R aa t;obtain⟨f,I,b,rfl,rfl,Z,HQ,a9,M⟩:=hrel;have am:=Z.out;obtain⟨x,y,z,rv,Y,t,o,B,ag⟩:=am;subst Y;obtain⟨K,L,X⟩:=o.boxed;cases gk with
  |zero=>have:=HQ.out;simp[xG] at this
  |succ m=>
   have C:=HQ.out;unfold xG at C;cases hl:yF T a f with
   |none=>
    rw[hl] at C;simp only[zs] at C;have HE:Hid (g=([x,y,z],b)):=C.symm;clear C hl HQ;simp only[kc,jW];go_wp2;go_end0
    exact⟨rfl,by rw[HE.out];exact Z.out,M⟩
   |some v=>
    rw[hl] at C;simp only at C;have aE:v<=1000:=by have:=ta hl;omega
    clear hl HQ;simp only[uo,qJ];have al:Hid (∀W,Below c.heap.size c W->Calls prog 167 #[.pointer (some ⟨tb,0,none⟩),.int .i64 a,.int .i64 ((v:Int)+1)] W fun e j=>e=.returned (.tuple #[.int .i64 (((yF T a (v+1)).getD 0:Nat):Int),.bool (yF T a (v+1)).isSome])/\j=W):=fun W hW=>by
     have q:=HL.out W (v+1) hW;rw[show((v+1:Nat):Int)=(v:Int)+1 from by omega] at q;exact q
    have s:=o.set 1 (.int .i64 v);simp at s;have ad:=A.below M;obtain⟨ax,ap,a0⟩:=ad.boxed;have aA:d≠tb:=(fun e=>by have:=A.lt;omega);by_cases hd:T.ql<=1
    ·rw[zb (by omega)] at C;have J:Hid (xG T m a 0 (v+1) [v,y,z] (b++[[v,y,z]])=some g):=C;have S:=lz T m _ _ _ _ _ _ C;simp at S;clear C HI HD HL;obtain⟨i0,hi,av,ar,ay⟩:=info_parts OH;obtain⟨ao,aj,rfl⟩:=zq B;have u:(wr.setCell ⟨d,1,none⟩ (.int .i64 v)).ownsRow c.heap.size 165 3 (.slice ao b.length aj) b.length (qX b):=xQ B ((Pm.refl d wr).setCell 1 _) o (by decide);have G:Below c.heap.size c (wr.setCell ⟨d,1,none⟩ (.int .i64 v)):=M.setCell (p:=⟨d,1,none⟩) t _;have az:=G.size;go_wp2;clear K L o B ax ap a0 ad Z X;generalize wr.setCell ⟨d,1,none⟩ (.int .i64 v)=wS at *;obtain⟨K,L,a3⟩:=s.boxed;go_region_law (first|(refine dX wS _ [.int .i64 v,.int .i64 y,.int .i64 z] 165 rfl (.tmp 42) (.tmp 47) 161 rfl c.heap.size 165 i0 _ 3 24 underlying161 hi av ar ay rfl (by decide) (.slice ao b.length aj) b.length (qX b) (by simp[Act.eval]) u (by exact(by go_grown)) wS.heap.size 1 (by simp[Act.eval]) (by exact OZ.drew (OZ.new _ _ _)) rfl (by simp[Value.oneCell']) (by omega) (by omega) (by omega) ?_;intro v' w2 ah ae a5 aF a1;obtain⟨D,h,rfl⟩:=zq ah;have E:=s.save ae (qD u s (by decide));obtain⟨aC,aH,aB⟩:=E.boxed))
     all_goals
      have V:Pq c.heap.size (w2.setCell ⟨d,4,none⟩ (.slice D (b.length+1) h)) (.slice D (b.length+1) h) (b++[[v,y,z]]):=by
       refine⟨?_,fun r hr=>?_⟩
       ·have:=xQ ah ((Pm.refl d w2).setCell 4 (.slice D (b.length+1) h)) E (by decide);simpa [qX,PF] using this
       ·rcases zW.1 hr with q|q
        ·exact ag r q
        ·simp at q;rw[q];rfl
      have O:=E.set 4 (.slice D (b.length+1) h);simp at O;have ac:Below c.heap.size c (w2.setCell ⟨d,4,none⟩ (.slice D (b.length+1) h)):=(G.trans (ae.below (fun x hx=>yW u (yv hx)) az)).setCell (p:=⟨d,4,none⟩) t _;have F:Hid (uN c.heap.size (w2.setCell ⟨d,4,none⟩ (.slice D (b.length+1) h)) d tb [v,y,z] (b++[[v,y,z]])):=⟨_,_,_,_,rfl,t,O,V⟩;go_wp2_with (first|(go_at_call 167;refine(al.out _ (by exact ac)).mono ?_;rintro e j ⟨rfl,l⟩;obtain rfl:=l.symm))
      go_roundg m
      case measure=>omega
      case rel=>exact⟨v+1,_,_,rfl,rfl,F,J,by omega,ac⟩
    ·have J:=C;rw[za (by omega),za (by omega)] at J;have G:Below c.heap.size c (wr.setCell ⟨d,1,none⟩ (.int .i64 v)):=M.setCell (p:=⟨d,1,none⟩) t _;have ab:uN c.heap.size (wr.setCell ⟨d,1,none⟩ (.int .i64 v)) d tb [v,y,z] b:=⟨_,_,_,rv,rfl,t,s,xQ B ((Pm.refl d wr).setCell 1 _) o (by decide),ag⟩;cases N:xG T m ((zH T a v).getD 0) 1 0 [v,y,z] b with
     |none=>rw[show [x,y,z].set 0 v=[v,y,z] from rfl] at J;rw[N] at J;cases J
     |some U=>
      rw[show [x,y,z].set 0 v=[v,y,z] from rfl] at J;rw[N] at J;have H3:xG T m a 0 (v+1) U.1 U.2=some g:=J;have HW:Hid (Calls prog 127 #[.pointer (some ⟨d,0,none⟩),.int .i64 (((zH T a v).getD 0:Nat):Int),.int .i64 1] (wr.setCell ⟨d,1,none⟩ (.int .i64 v)) fun e j=>e=.returned (.tuple #[])/\uN c.heap.size j d tb U.1 U.2/\Below c.heap.size c j):=by
       have q:=HI.out m (by omega) _ _ _ _ _ U N (by omega) (by have:=lz T m _ _ _ _ _ _ H3;omega) G ab;rw[show((1:Nat):Int)=1 from rfl] at q;exact q
      have H4:=OY H3;clear C J H3 N;have an:=OY (HD.out _ v G);generalize (zH T a v).getD 0=dn at *;generalize (zH T a v).isSome=ds at *;clear HD HI HL;go_wp2_with (first|(go_at_call 130;refine an.out.mono ?_;rintro e j ⟨rfl,l⟩;obtain rfl:=l.symm)|(go_at_call 127;refine HW.out.mono ?_;rintro e w3 ⟨rfl,P,ak⟩;have F:=OY P;obtain⟨x3,y3,z3,aD,_,_,af,_,_⟩:=P;obtain⟨a2,a7,a6⟩:=af.boxed)|(go_at_call 167;refine(al.out _ ak).mono ?_;rintro e j ⟨rfl,l⟩;obtain rfl:=l.symm))
      go_roundg m
      case measure=>omega
      case rel=>exact⟨v+1,U.1,U.2,rfl,rfl,F,H4,by omega,ak⟩
theorem Jb(c:World)(tb:Nat)(T:zi)(fp:List Nat)(ht:zX lo c tb T fp)(d n:Nat)(ih:(∀m,m<n->∀(w:World) (a level:Nat) (row:zk) (i:List zk) (g:zk×List zk),xG T m a level 0 row i=some g->level<3->g.2.length<=1048576->Below c.heap.size c w->uN c.heap.size w d tb row i->Calls prog 127 #[.pointer (some ⟨d,0,none⟩),.int .i64 a,.int .i64 level] w fun e j=>e=.returned (.tuple #[])/\uN c.heap.size j d tb g.1 g.2/\Below c.heap.size c j))(w:World)(a:Nat)(row:zk)(i:List zk)(g:zk×List zk)(Q:xG T n a 1 0 row i=some g)(a4:g.2.length<=1048576)(aa:Below c.heap.size c w)(H:uN c.heap.size w d tb row i):
  Calls prog 127 #[.pointer (some ⟨d,0,none⟩),.int .i64 a,.int .i64 1] w fun e j=>e=.returned (.tuple #[])/\uN c.heap.size j d tb g.1 g.2/\Below c.heap.size c j:=by
 have HI:=OY ih;clear ih;have HL:Hid (∀W f,Below c.heap.size c W->Calls prog 167 #[.pointer (some ⟨tb,0,none⟩),.int .i64 a,.int .i64 ((f:Nat):Int)] W fun e j=>e=.returned (.tuple #[.int .i64 (((yF T a f).getD 0:Nat):Int),.bool (yF T a f).isSome])/\j=W):=fun W f hW=>rn W tb T fp a f (ht.below hW);have HD:Hid (∀W v,Below c.heap.size c W->Calls prog 130 #[.pointer (some ⟨tb,0,none⟩),.int .i64 a,.int .i64 ((v:Nat):Int)] W fun e j=>e=.returned (.tuple #[.int .i64 (((zH T a v).getD 0:Nat):Int),.bool (zH T a v).isSome])/\j=W):=fun W v hW=>m8 W tb T fp a v (ht.below hW);have a8:T.ql<=3:=by obtain⟨nv,ns,h1,_⟩:=ht;exact h1.deep
 have aG:T.qf<=1000:=by obtain⟨nv,ns,h1,_⟩:=ht;exact h1.wide
 have A:∃nv,OZ c tb #[.int .i64 T.qf,.int .i64 T.ql,nv,.int .i64 T.count] 229:=by obtain⟨nv,ns,h1,_⟩:=ht;exact⟨nv,h1.box⟩
 obtain⟨nv,A⟩:=A;clear ht;have ai:=OY H;have R:=OY Q;obtain⟨x,y,z,rv,aw,t,o,aq,au⟩:=H;clear aw aq au Q;obtain⟨K,L,X⟩:=o.boxed;go_enter func127,ntmps127;go_wp2_with (first|(go_at_call 167;refine(HL.out w 0 aa).mono ?_;rintro e j ⟨rfl,l⟩;obtain rfl:=l.symm;clear l))
 clear K L X o;go_loopg [6,7] n (fun k v6 v7 wr=>∃(f:Nat) (I:zk) (b:List zk),v6=.int .i64 (((yF T a f).getD 0:Nat):Int)/\v7=.bool (yF T a f).isSome/\Hid (uN c.heap.size wr d tb I b)/\Hid (xG T k a 1 f I b=some g)/\k<=n/\Below c.heap.size c wr)
 case atStart=>exact⟨0,row,i,rfl,rfl,ai,R,zh _,aa⟩
 case round=>
  clear ai R aa t;obtain⟨f,I,b,rfl,rfl,Z,HQ,a9,M⟩:=hrel;have am:=Z.out;obtain⟨x,y,z,rv,Y,t,o,B,ag⟩:=am;subst Y;obtain⟨K,L,X⟩:=o.boxed;cases gk with
  |zero=>have:=HQ.out;simp[xG] at this
  |succ m=>
   have C:=HQ.out;unfold xG at C;cases hl:yF T a f with
   |none=>
    rw[hl] at C;simp only[zs] at C;have HE:Hid (g=([x,y,z],b)):=C.symm;clear C hl HQ;simp only[kc,jW];go_wp2;go_end0
    exact⟨rfl,by rw[HE.out];exact Z.out,M⟩
   |some v=>
    rw[hl] at C;simp only at C;have aE:v<=1000:=by have:=ta hl;omega
    clear hl HQ;simp only[uo,qJ];have al:Hid (∀W,Below c.heap.size c W->Calls prog 167 #[.pointer (some ⟨tb,0,none⟩),.int .i64 a,.int .i64 ((v:Int)+1)] W fun e j=>e=.returned (.tuple #[.int .i64 (((yF T a (v+1)).getD 0:Nat):Int),.bool (yF T a (v+1)).isSome])/\j=W):=fun W hW=>by
     have q:=HL.out W (v+1) hW;rw[show((v+1:Nat):Int)=(v:Int)+1 from by omega] at q;exact q
    have s:=o.set 2 (.int .i64 v);simp at s;have ad:=A.below M;obtain⟨ax,ap,a0⟩:=ad.boxed;have aA:d≠tb:=(fun e=>by have:=A.lt;omega);by_cases hd:T.ql<=2
    ·rw[zb (by omega)] at C;have J:Hid (xG T m a 1 (v+1) [x,v,z] (b++[[x,v,z]])=some g):=C;have S:=lz T m _ _ _ _ _ _ C;simp at S;clear C HI HD HL;obtain⟨i0,hi,av,ar,ay⟩:=info_parts OH;obtain⟨ao,aj,rfl⟩:=zq B;have u:(wr.setCell ⟨d,2,none⟩ (.int .i64 v)).ownsRow c.heap.size 165 3 (.slice ao b.length aj) b.length (qX b):=xQ B ((Pm.refl d wr).setCell 2 _) o (by decide);have G:Below c.heap.size c (wr.setCell ⟨d,2,none⟩ (.int .i64 v)):=M.setCell (p:=⟨d,2,none⟩) t _;have az:=G.size;go_wp2;clear K L o B ax ap a0 ad Z X;generalize wr.setCell ⟨d,2,none⟩ (.int .i64 v)=wS at *;obtain⟨K,L,a3⟩:=s.boxed;go_region_law (first|(refine dX wS _ [.int .i64 x,.int .i64 v,.int .i64 z] 165 rfl (.tmp 42) (.tmp 47) 161 rfl c.heap.size 165 i0 _ 3 24 underlying161 hi av ar ay rfl (by decide) (.slice ao b.length aj) b.length (qX b) (by simp[Act.eval]) u (by exact(by go_grown)) wS.heap.size 1 (by simp[Act.eval]) (by exact OZ.drew (OZ.new _ _ _)) rfl (by simp[Value.oneCell']) (by omega) (by omega) (by omega) ?_;intro v' w2 ah ae a5 aF a1;obtain⟨D,h,rfl⟩:=zq ah;have E:=s.save ae (qD u s (by decide));obtain⟨aC,aH,aB⟩:=E.boxed))
     all_goals
      have V:Pq c.heap.size (w2.setCell ⟨d,4,none⟩ (.slice D (b.length+1) h)) (.slice D (b.length+1) h) (b++[[x,v,z]]):=by
       refine⟨?_,fun r hr=>?_⟩
       ·have:=xQ ah ((Pm.refl d w2).setCell 4 (.slice D (b.length+1) h)) E (by decide);simpa [qX,PF] using this
       ·rcases zW.1 hr with q|q
        ·exact ag r q
        ·simp at q;rw[q];rfl
      have O:=E.set 4 (.slice D (b.length+1) h);simp at O;have ac:Below c.heap.size c (w2.setCell ⟨d,4,none⟩ (.slice D (b.length+1) h)):=(G.trans (ae.below (fun x hx=>yW u (yv hx)) az)).setCell (p:=⟨d,4,none⟩) t _;have F:Hid (uN c.heap.size (w2.setCell ⟨d,4,none⟩ (.slice D (b.length+1) h)) d tb [x,v,z] (b++[[x,v,z]])):=⟨_,_,_,_,rfl,t,O,V⟩;go_wp2_with (first|(go_at_call 167;refine(al.out _ (by exact ac)).mono ?_;rintro e j ⟨rfl,l⟩;obtain rfl:=l.symm))
      go_roundg m
      case measure=>omega
      case rel=>exact⟨v+1,_,_,rfl,rfl,F,J,by omega,ac⟩
    ·have J:=C;rw[za (by omega),za (by omega)] at J;have G:Below c.heap.size c (wr.setCell ⟨d,2,none⟩ (.int .i64 v)):=M.setCell (p:=⟨d,2,none⟩) t _;have ab:uN c.heap.size (wr.setCell ⟨d,2,none⟩ (.int .i64 v)) d tb [x,v,z] b:=⟨_,_,_,rv,rfl,t,s,xQ B ((Pm.refl d wr).setCell 2 _) o (by decide),ag⟩;cases N:xG T m ((zH T a v).getD 0) 2 0 [x,v,z] b with
     |none=>rw[show [x,y,z].set 1 v=[x,v,z] from rfl] at J;rw[N] at J;cases J
     |some U=>
      rw[show [x,y,z].set 1 v=[x,v,z] from rfl] at J;rw[N] at J;have H3:xG T m a 1 (v+1) U.1 U.2=some g:=J;have HW:Hid (Calls prog 127 #[.pointer (some ⟨d,0,none⟩),.int .i64 (((zH T a v).getD 0:Nat):Int),.int .i64 2] (wr.setCell ⟨d,2,none⟩ (.int .i64 v)) fun e j=>e=.returned (.tuple #[])/\uN c.heap.size j d tb U.1 U.2/\Below c.heap.size c j):=by
       have q:=HI.out m (by omega) _ _ _ _ _ U N (by omega) (by have:=lz T m _ _ _ _ _ _ H3;omega) G ab;rw[show((2:Nat):Int)=2 from rfl] at q;exact q
      have H4:=OY H3;clear C J H3 N;have an:=OY (HD.out _ v G);generalize (zH T a v).getD 0=dn at *;generalize (zH T a v).isSome=ds at *;clear HD HI HL;go_wp2_with (first|(go_at_call 130;refine an.out.mono ?_;rintro e j ⟨rfl,l⟩;obtain rfl:=l.symm)|(go_at_call 127;refine HW.out.mono ?_;rintro e w3 ⟨rfl,P,ak⟩;have F:=OY P;obtain⟨x3,y3,z3,aD,_,_,af,_,_⟩:=P;obtain⟨a2,a7,a6⟩:=af.boxed)|(go_at_call 167;refine(al.out _ ak).mono ?_;rintro e j ⟨rfl,l⟩;obtain rfl:=l.symm))
      go_roundg m
      case measure=>omega
      case rel=>exact⟨v+1,U.1,U.2,rfl,rfl,F,H4,by omega,ak⟩
theorem Ht(c:World)(tb:Nat)(T:zi)(fp:List Nat)(U:zX lo c tb T fp)(i n:Nat)(ih:(∀m,m<n->∀(w:World) (a level:Nat) (row:zk) (h:List zk) (d:zk×List zk),xG T m a level 0 row h=some d->level<3->d.2.length<=1048576->Below c.heap.size c w->uN c.heap.size w i tb row h->Calls prog 127 #[.pointer (some ⟨i,0,none⟩),.int .i64 a,.int .i64 level] w fun e t=>e=.returned (.tuple #[])/\uN c.heap.size t i tb d.1 d.2/\Below c.heap.size c t))(w:World)(a:Nat)(row:zk)(h:List zk)(d:zk×List zk)(K:xG T n a 2 0 row h=some d)(az:d.2.length<=1048576)(S:Below c.heap.size c w)(D:uN c.heap.size w i tb row h):
  Calls prog 127 #[.pointer (some ⟨i,0,none⟩),.int .i64 a,.int .i64 2] w fun e t=>e=.returned (.tuple #[])/\uN c.heap.size t i tb d.1 d.2/\Below c.heap.size c t:=by
 have HI:=OY ih;clear ih;have HL:Hid (∀W f,Below c.heap.size c W->Calls prog 167 #[.pointer (some ⟨tb,0,none⟩),.int .i64 a,.int .i64 ((f:Nat):Int)] W fun e t=>e=.returned (.tuple #[.int .i64 (((yF T a f).getD 0:Nat):Int),.bool (yF T a f).isSome])/\t=W):=fun W f hW=>rn W tb T fp a f (U.below hW);have HD:Hid (∀W v,Below c.heap.size c W->Calls prog 130 #[.pointer (some ⟨tb,0,none⟩),.int .i64 a,.int .i64 ((v:Nat):Int)] W fun e t=>e=.returned (.tuple #[.int .i64 (((zH T a v).getD 0:Nat):Int),.bool (zH T a v).isSome])/\t=W):=fun W v hW=>m8 W tb T fp a v (U.below hW);have ag:T.ql<=3:=by obtain⟨V,ns,h1,_⟩:=U;exact h1.deep
 have a7:T.qf<=1000:=by obtain⟨V,ns,h1,_⟩:=U;exact h1.wide
 have o:∃V,OZ c tb #[.int .i64 T.qf,.int .i64 T.ql,V,.int .i64 T.count] 229:=by obtain⟨V,ns,h1,_⟩:=U;exact⟨V,h1.box⟩
 obtain⟨V,o⟩:=o;clear U;have ae:=OY D;have L:=OY K;obtain⟨x,y,z,rv,ap,A,j,aj,al⟩:=D;clear ap aj al K;obtain⟨G,I,O⟩:=j.boxed;go_enter func127,ntmps127;go_wp2_with (first|(go_at_call 167;refine(HL.out w 0 S).mono ?_;rintro e t ⟨rfl,H⟩;obtain rfl:=H.symm;clear H))
 clear G I O j;go_loopg [6,7] n (fun k v6 v7 wr=>∃(f:Nat) (E:zk) (b:List zk),v6=.int .i64 (((yF T a f).getD 0:Nat):Int)/\v7=.bool (yF T a f).isSome/\Hid (uN c.heap.size wr i tb E b)/\Hid (xG T k a 2 f E b=some d)/\k<=n/\Below c.heap.size c wr)
 case atStart=>exact⟨0,row,h,rfl,rfl,ae,L,zh _,S⟩
 case round=>
  clear ae L S A;obtain⟨f,E,b,rfl,rfl,R,HQ,a1,P⟩:=hrel;have ah:=R.out;obtain⟨x,y,z,rv,Q,A,j,F,am⟩:=ah;subst Q;obtain⟨G,I,O⟩:=j.boxed;cases gk with
  |zero=>have:=HQ.out;simp[xG] at this
  |succ m=>
   have C:=HQ.out;unfold xG at C;cases Y:yF T a f with
   |none=>
    rw[Y] at C;simp only[zs] at C;have HE:Hid (d=([x,y,z],b)):=C.symm;clear C Y HQ;simp only[kc,jW];go_wp2;go_end0
    exact⟨rfl,by rw[HE.out];exact R.out,P⟩
   |some v=>
    rw[Y] at C;simp only at C;have a5:v<=1000:=by have:=ta Y;omega
    clear Y HQ;simp only[uo,qJ];have aw:Hid (∀W,Below c.heap.size c W->Calls prog 167 #[.pointer (some ⟨tb,0,none⟩),.int .i64 a,.int .i64 ((v:Int)+1)] W fun e t=>e=.returned (.tuple #[.int .i64 (((yF T a (v+1)).getD 0:Nat):Int),.bool (yF T a (v+1)).isSome])/\t=W):=fun W hW=>by
     have q:=HL.out W (v+1) hW;rw[show((v+1:Nat):Int)=(v:Int)+1 from by omega] at q;exact q
    have s:=j.set 3 (.int .i64 v);simp at s;have Z:=o.below P;obtain⟨aq,ai,av⟩:=Z.boxed;have a2:i≠tb:=(fun e=>by have:=o.lt;omega);by_cases hd:T.ql<=3
    ·rw[zb (by omega)] at C;have H2:Hid (xG T m a 2 (v+1) [x,y,v] (b++[[x,y,v]])=some d):=C;have M:=lz T m _ _ _ _ _ _ C;simp at M;clear C HI HD HL;obtain⟨i0,hi,an,ak,ar⟩:=info_parts OH;obtain⟨ao,af,rfl⟩:=zq F;have l:(wr.setCell ⟨i,3,none⟩ (.int .i64 v)).ownsRow c.heap.size 165 3 (.slice ao b.length af) b.length (qX b):=xQ F ((Pm.refl i wr).setCell 3 _) j (by decide);have ac:Below c.heap.size c (wr.setCell ⟨i,3,none⟩ (.int .i64 v)):=P.setCell (p:=⟨i,3,none⟩) A _;have au:=ac.size;go_wp2;clear G I j F aq ai av Z R O;generalize wr.setCell ⟨i,3,none⟩ (.int .i64 v)=wS at *;obtain⟨G,I,ay⟩:=s.boxed;go_region_law (first|(refine dX wS _ [.int .i64 x,.int .i64 y,.int .i64 v] 165 rfl (.tmp 42) (.tmp 47) 161 rfl c.heap.size 165 i0 _ 3 24 underlying161 hi an ak ar rfl (by decide) (.slice ao b.length af) b.length (qX b) (by simp[Act.eval]) l (by exact(by go_grown)) wS.heap.size 1 (by simp[Act.eval]) (by exact OZ.drew (OZ.new _ _ _)) rfl (by simp[Value.oneCell']) (by omega) (by omega) (by omega) ?_;intro v' w2 ad aa a0 a6 ax;obtain⟨u,g,rfl⟩:=zq ad;have B:=s.save aa (qD l s (by decide));obtain⟨a4,a8,a3⟩:=B.boxed))
     all_goals
      have N:Pq c.heap.size (w2.setCell ⟨i,4,none⟩ (.slice u (b.length+1) g)) (.slice u (b.length+1) g) (b++[[x,y,v]]):=by
       refine⟨?_,fun r hr=>?_⟩
       ·have:=xQ ad ((Pm.refl i w2).setCell 4 (.slice u (b.length+1) g)) B (by decide);simpa [qX,PF] using this
       ·rcases zW.1 hr with q|q
        ·exact am r q
        ·simp at q;rw[q];rfl
      have J:=B.set 4 (.slice u (b.length+1) g);simp at J;have X:Below c.heap.size c (w2.setCell ⟨i,4,none⟩ (.slice u (b.length+1) g)):=(ac.trans (aa.below (fun x hx=>yW l (yv hx)) au)).setCell (p:=⟨i,4,none⟩) A _;have ab:Hid (uN c.heap.size (w2.setCell ⟨i,4,none⟩ (.slice u (b.length+1) g)) i tb [x,y,v] (b++[[x,y,v]])):=⟨_,_,_,_,rfl,A,J,N⟩;go_wp2_with (first|(go_at_call 167;refine(aw.out _ (by exact X)).mono ?_;rintro e t ⟨rfl,H⟩;obtain rfl:=H.symm))
      go_roundg m
      case measure=>omega
      case rel=>exact⟨v+1,_,_,rfl,rfl,ab,H2,by omega,X⟩
    ·exact zC ag (by omega)
theorem QB(h:World)(tb:Nat)(T:zi)(fp:List Nat)(l:zX lo h tb T fp)(j:Nat):∀(n:Nat) (w:World) (a level:Nat) (row:zk) (b:List zk) (c:zk×List zk),xG T n a level 0 row b=some c->level<3->c.2.length<=1048576->Below h.heap.size h w->uN h.heap.size w j tb row b →
  Calls prog 127 #[.pointer (some ⟨j,0,none⟩),.int .i64 a,.int .i64 level] w fun e o=>e=.returned (.tuple #[])/\uN h.heap.size o j tb c.1 c.2/\Below h.heap.size h o:=by
 intro n;induction n using Nat.strongRecOn with
 |_ n k=>
  intro w a level row b c f m g i d;obtain rfl|rfl|rfl:level=0∨level=1∨level=2:=by omega
  ·exact NX h tb T fp l j n k w a row b c f g i d
  ·exact Jb h tb T fp l j n k w a row b c f g i d
  ·exact Ht h tb T fp l j n k w a row b c f g i d
theorem K8(w:World)(tb:Nat)(T:zi)(fp:List Nat)(p:zX lo w tb T fp)(n:Nat)(rs:List zk)(a:mP n T=some rs)(c:rs.length<=1048576):
  Calls prog 78 #[.pointer (some ⟨tb,0,none⟩)] w fun e k=>∃v,e=.returned v/\Pq w.heap.size k v rs/\Below w.heap.size w k:=by
 unfold mP at a;cases f:xG T n 0 0 0 [0,0,0] [] with
 |none=>rw[f] at a;cases a
 |some d=>
  rw[f] at a;simp only[jZ,zs] at a;subst a;have hrel:uN w.heap.size (w.alloc (.cells #[.pointer (some ⟨tb,0,none⟩),.int .i64 0,.int .i64 0,.int .i64 0,.slice none 0 0] 223)) w.heap.size tb [0,0,0] []:=⟨0,0,0,_,rfl,zh _,OZ.new _ _ _,yK _ _ _ _,by simp⟩;have q:=OY (QB w tb T fp p w.heap.size n _ 0 0 _ _ d f (by omega) c zO hrel);go_enter func78,ntmps78;go_wp2_with (first|(go_at_call 127;refine q.out.mono ?_;rintro e s ⟨rfl,i,h⟩;obtain⟨x,y,z,r,_,_,g,b⟩:=i;have j:=OY b;clear b;obtain⟨m,l,o⟩:=g.boxed))
  go_ret;exact⟨_,rfl,j.out,h⟩
end
end Go.Proofs.YteampbddflhngaaGreat
