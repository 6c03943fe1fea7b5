import Derived.Test.YteampbddflhngaaGreatR09
import Derived.Test.YteampbddflhngaaGreatR12
namespace Go.Proofs.YteampbddflhngaaGreat
open List renaming length→List.j,take→List.G
open _root_.Array renaming size→Array.q
open _root_.ByteArray renaming size→ByteArray.q
open Go.RowKit.Below renaming size→Go.RowKit.Below.q
open Go.RowKit.Hid renaming out→Go.RowKit.Hid.l
open Go.World renaming heap→Go.World.o
open Go.Calls renaming mono→Go.Calls.y
open Int renaming toNat→Int.D
open Option renaming some→Z
open Go.RowKit renaming Hid→X
open Go renaming World→U,Value→O
set_option linter.all false
set_option maxRecDepth 100000
set_option maxHeartbeats 4000000
open Go.Proofs.Tryz Go.RowKit
section
variable {lo:Nat}{l:List Int}{os:List (Option (List Int))}
def mI(n:Nat)(l:List Int):Bool:=(List.range n).all λk=>decide (l.count (k:Int)=1)
def G3(n:Nat):∀(l:List Int) (a:List Bool),a.j=5->l.Nodup->(∀x∈l,0<=x/\x<(n:Int)/\x<5/\a.getD x.D false=false)->jR n l a=true
 |[],_,_,_,_=>rfl
 |x::l,a,j,c,b=>by
  obtain⟨p,m,o,h⟩:=b x ζ;rw[jR,za η,za (by rw[h];decide)];refine G3 n l _ (by simp[j]) (jx.1 c).2 λy d=>?_;obtain⟨g,f,k,i⟩:=b y (by simp[d]);refine⟨g,f,k,?_⟩;rw[nG,za]
  .exact i
  .rintro⟨e,_⟩;have:x=y:=η;subst this;exact(jx.1 c).1 d
def JV(s:l.j<=5):mI l.j l=rS l:=by
 have o:((List.range l.j).map (Nat.cast:Nat->Int)).Nodup:=mX.2 (List.Pairwise.imp (fun{a b} h e=>h η) List.nodup_range);rw[Bool.eq_iff_iff];constructor;intro h;have n:∀k,k<l.j->l.count (k:Int)=1:=λk d=>by simpa using gO.1 h k (qv.2 d)
 have i:∀x∈l,0<=x/\x<(l.j:Int):=λx c=>by
  by_cases f:x∈(List.range l.j).map (Nat.cast:Nat->Int);obtain⟨k,d,rfl⟩:=zF.1 f;have:=qv.1 d;omega;exfalso;have:=mO o (l2:=l.erase x) (λy g=>(lN (by rintro rfl;exact f g)).2 (by
   obtain⟨k,d,rfl⟩:=zF.1 g;exact List.count_pos_iff.1 (by rw[n k (qv.1 d)];omega)))
  rw[xt,ri,nt c] at this;have:=pd c;omega
 have j:l.Nodup:=List.nodup_iff_count.2 λx=>by
  by_cases c:x∈l;obtain⟨a,b⟩:=i x c;have:=n x.D η;rw[Int.toNat_of_nonneg a] at this;omega;rw[List.count_eq_zero.2 c];omega
 exact G3 _ l _ rfl j λx c=>by
  obtain⟨a,b⟩:=i x c;refine⟨a,b,η,?_⟩;have:x=0∨x=1∨x=2∨x=3∨x=4:=η;rcases this with rfl|rfl|rfl|rfl|rfl<;>rfl
 intro h;obtain⟨m,c⟩:=AL h rfl;refine gO.2 λk d=>?_;have d:=qv.1 d;have p:(k:Int)∈l:=by
  by_cases f:(k:Int)∈l;exact f;exfalso;have:=mO m (l2:=((List.range l.j).map (Nat.cast:Nat->Int)).erase (k:Int)) (λy g=>(lN (by rintro rfl;exact f g)).2 (by
   obtain⟨a,b,_⟩:=c y g;exact zF.2 ⟨y.D,qv.2 η,η⟩))
  rw[nt (zF.2 ⟨k,qv.2 d,rfl⟩),xt,ri] at this;omega
 have q:=List.nodup_iff_count.1 m (k:Int);have r:=List.count_pos_iff.2 p;simp only[decide_eq_true_eq];omega
def K4{j:Nat}(a:j<l.j)(k:Int):(l.G (j+1)).count k=(l.G j).count k+if l[j]=k then 1 else 0:=by
 rw[yN a,List.count_append,List.count_singleton];by_cases h:l[j]=k<;>simp[h]
def M6(m:Nat):mI (m+1) l=(mI m l&&decide (l.count (m:Int)=1)):=by
 unfold mI;rw[oG,List.all_append];simp
def LL{n m:Nat}(a:m<n)(h:l.count (m:Int)≠1):mI n l=false:=by
 cases b:mI n l;rfl;have:=gO.1 b m (qv.2 a);exact zC (by simpa using this) h
def Fz(w:U)(r vb:O)(o:Option (List Int))(j:xQ w r o)(m:xQ w vb o)(H:(o.getD []).j<=281474976710656):
  Calls prog 18 #[r,vb] w λe E=>e=ε (.bool true)/\μ w E:=by
 obtain⟨G,A,rfl⟩:=j.qy;obtain⟨v,p,rfl⟩:=m.qy;have u:=Th λk (h:k<(o.getD []).j)=>j.cell k h;have B:=Th λk (h:k<(o.getD []).j)=>m.cell k h;clear j m;generalize o.getD []=l at *;go_enter func18,ntmps18;go_wp2;go_loopw [5] (λi wr=>∃k:Nat,k<=l.j/\i=ι k/\μ w wr) (λi _=>l.j-(intOf i).D);exact⟨0,zs _,rfl,zn _ _⟩;obtain⟨k,h,rfl,a⟩:=hrel;have s:=a.q;by_cases d:k<l.j
 .obtain⟨g,f,rfl,D,c⟩:=u.l k d;obtain⟨z,F,rfl,n,b⟩:=B.l k d;have y:=zi a D c;have q:=zi a n b;have C:g<wr.o.q:=η;have t:z<wr.o.q:=η;clear c b;generalize l[k]=x at *;go_wp2;go_quiet (fail)
  go_wp2;go_roundw;exact⟨k+1,η,ξ,zI a _⟩;simp[intOf];omega
 go_wp2;go_ret;exact⟨rfl,a⟩
def Sf{cs:Ξ}{k:Nat}(b:k<cs.j)(a:k<os.j)(h:vz cs[k] os[k]=false):vw cs (Z os)=false:=by
 unfold vw;rw[wW];refine ze (List.all_eq_false.2 ⟨(cs[k],os[k]),vQ.2 ⟨k,by simp;omega,ζ⟩,by simp[h]⟩)
def Nj{cs:Ξ}(c:os.j=cs.j)(h:∀k (a:k<cs.j) (d:k<os.j),vz cs[k] os[k]=true):vw cs (Z os)=true:=by
 unfold vw;simp only[uI,beq_iff_eq,gO];refine⟨c,λx b=>?_⟩;obtain⟨k,a,rfl⟩:=vQ.1 b;simp only[List.length_zip] at a;simpa using h k η η
def M8{c:zc}(b:(zx c).j<=5):vz c (Z l)=(l.j == (zx c).j&&mI (zx c).j l):=by
 unfold vz;by_cases a:l.j=(zx c).j;rw[←a,JV η];dsimp only;rw[beq_false_of_ne a];rfl
def mK(w:U)(v:O)(a:List O):Prop:=∃c b,v=.slice c a.j b/\∀k (h:k<a.j),∃g f,c=Z ⟨g,f,none⟩/\g<w.o.q/\w.cell? ⟨g,f+k,none⟩=Z a[k]
def mK.u{w w':U}{v:O}{d:Γ}(h:mK w v d)(c:μ w w'):mK w' v d:=by
 obtain⟨j,a,i,n⟩:=h;refine⟨j,a,i,λk m=>?_⟩;obtain⟨g,f,e,b,o⟩:=n k m;exact⟨g,f,e,ym b c.q,zi c b o⟩
def L6(w:U)(mb:Nat)(lv:O)(cs:Ξ)(t:Ψ)(us:Γ)(os:List (Option (List Int)))(hm:jD lo w mb cs t)(ho:mK w lv us)(P:us.j=os.j)(ai:∀k (s:k<us.j) (K:k<os.j),xQ w us[k] os[k])(af:∀o∈os,(o.getD []).j<=2000000)(an:∀c∈cs,c.d.j<=999/\xj (zm c)<=1000/\(zx c).j<=5/\∀l∈zm c,∀t∈l.k,0<t.q)(a8:cs.j<=1000):
  Calls prog 75 #[(π mb),lv,.bool false] w λe w'=>e=ε (.bool (vw cs (Z os)))/\μ w w':=by
 obtain⟨_,cv,pv,kv,ah,Q,_,_⟩:=hm;obtain⟨ao,aG,rfl⟩:=Q.qy;obtain⟨aw,a3,rfl,al⟩:=ho;have E:∀k (s:k<os.j),∃L fl u,aw=Z (ω L fl)/\L<w.o.q/\w.cell? (ω L (fl+k))=Z u/\xQ w u os[k]:=λk s=>by
  obtain⟨g,f,e,K,h3⟩:=al k η;exact⟨g,f,_,e,K,h3,ai k η s⟩
 clear al ai;rw[P];clear P;obtain⟨aI,aK,aJ⟩:=ah.e;by_cases p:os.j=cs.j
 .rw[p];have ay:=Th an;have ax:=Th af;have HC:=Th E;have HL:=Th p;clear an af E p;go_enter func75,ntmps75;go_wp2;go_loopw [7] (λv7 wr=>∃k:Nat,k<=cs.j/\v7=ι k/\μ w wr/\X (∀j (s:j<cs.j) (K:j<os.j),j<k->vz cs[j] os[j]=true)) (λi _=>cs.j-(intOf i).D);exact⟨0,zs _,rfl,zn _ _,λj _ _ h=>η⟩;obtain⟨k,hk,rfl,b,HD⟩:=hrel;have a7:=b.q;have ae:=ah.u b;obtain⟨aC,aF,aB⟩:=ae.e;by_cases B:k<cs.j
  .have M:k<os.j:=by rw[HL.l];exact B
   obtain⟨g,aE,a6,a9,a4,rfl,v⟩:=Q.at k B;obtain⟨aH,aa,a0,ap⟩:=ay.l _ (zq B);have ac:=ax.l _ (zq M);obtain⟨L,fl,u,rfl,av,hu,A⟩:=HC.l k M;have z:=zi b av hu;have d:L<wr.o.q:=η;have A:=A.u b;have v:=v.u b;have HF:=Th fun(h:vz cs[k] os[k]=false)=>Sf B M h;have HT:X (vz cs[k] os[k]=true->∀j (s:j<cs.j) (K:j<os.j),j<k+1->vz cs[j] os[j]=true):=λh j s K hj=>by
    by_cases e:j=k;subst e;exact h;exact HD.l j s K η
   clear HD hu;generalize cs[k]=c at *;generalize os[k]=o at *;have HV:=Th (AX wr true g (k*4) c _ _ _ _ v η aa ap);rw[Cg] at HV;have a5:=v.lt;clear aa ap v;rcases o with _|l
   .have h0:u=ν:=A;subst h0;have I:∀W:U,(binOp .eql 24 (ν) (ν)).run prog W=.ok (.bool true) W:=λW=>by
     have:=run_equal_slice_nil W 24 3 none 0 0 underlying24;simp[binOp,this]
    go_wp2_with (go_at_call 108;refine HV.l.y ?_;rintro e H ⟨vv,rfl,q,a⟩;obtain⟨V,J,rfl⟩:=q.qy;have r:=Tl b a;have G:=zi a d z;have y:L<H.o.q:=(by have:=a.q;omega))
    go_roundw;exact⟨k+1,η,ξ,r,HT.l rfl⟩;simp[intOf];omega
   obtain⟨ad,F,rfl,C⟩:=A;have I:∀W:U,(binOp .eql 24 (.slice (Z ad) l.j F) (ν)).run prog W=.ok (.bool false) W:=λW=>by
    have:=run_equal_slice_nil W 24 3 (Z ad) l.j F underlying24;simp[binOp,this]
   have HE:=Th (M8 (l:=l) a0);have au:l.j<=2000000:=ac;generalize zx c=vs at *;by_cases S:l.j=vs.j
   .rw[S] at z I;have am:=Th C;have ab:=Th S;have ag:X (vz c (Z l)=mI vs.j l):=by
     show _=_;rw[HE.l,S,beq_self_eq_true];rfl
    clear S C HE au ac;go_wp2_with (go_at_call 108;refine HV.l.y ?_;rintro e H ⟨vv,rfl,q,a⟩;obtain⟨V,J,rfl⟩:=q.qy;have r:=Tl b a;have G:=zi a d z;have y:L<H.o.q:=(by have:=a.q;omega))
    have T:X (∀j (h:j<l.j),∃g f,ad=(ω g f)/\g<H.o.q/\H.cell? (ω g (f+j))=Z (ι l[j])):=λj h=>by
     obtain⟨g,f,e,q1,q2⟩:=am.l j h;exact⟨g,f,e,ym q1 a.q,zi a q1 q2⟩
    clear am z HV d q a;go_loopw [9] (λv9 wj=>∃m:Nat,m<=vs.j/\v9=ι m/\wj=H/\X (mI m l=true)) (λi _=>vs.j-(intOf i).D);exact⟨0,zs _,rfl,rfl,rfl⟩;obtain⟨m,hm,rfl,rfl,HM⟩:=hrel;by_cases az:m<vs.j
    .go_wp2;go_loopw [10,11] (λa1 ar wi=>∃(j n:Nat),j<=vs.j/\n<=j/\ar=ι j/\a1=ι n/\wi=wr/\X (n=(l.G j).count (m:Int))) (λ_ i _=>vs.j-(intOf i).D);exact⟨0,0,zs _,zs _,rfl,rfl,rfl,by simp[X]⟩;obtain⟨j,n,hj,aA,rfl,rfl,rfl,HN⟩:=hrel;by_cases aq:j<vs.j
     .have D:j<l.j:=by rw[ab.l];exact aq
      obtain⟨g2,f2,rfl,a2,aD⟩:=T.l j D;have aj:=Th (K4 D (m:Int));generalize l[j]=x at *;by_cases N:x=(m:Int)
      .subst N;go_wp2;go_roundw;exact⟨j+1,n+1,η,η,ξ,ξ,trivial,by show _=_;rw[aj.l,←HN.l];simp⟩;simp[intOf];omega
      have hb:(x == (m:Int))=false:=beq_false_of_ne N;go_wp2;go_roundw;exact⟨j+1,n,η,η,ξ,rfl,trivial,by show _=_;rw[aj.l,←HN.l,za N];rfl⟩;simp[intOf];omega
     have R:X (n=l.count (m:Int)):=by
      show _=_;rw[HN.l,yV (by rw[ab.l];omega)]
     by_cases s:n=1
     .subst s;go_wp2;go_roundw;exact⟨m+1,η,ξ,trivial,by show _=_;rw[M6,HM.l,←R.l];rfl⟩;simp[intOf];omega
     have ak:((n:Int) != 1)=true:=by rw[bne_iff_ne];omega
     go_wp2;go_ret;exact⟨by rw[HF.l (by rw[ag.l];exact LL az (by rw[←R.l];exact s))];rfl,r⟩
    go_wp2;go_roundw;exact⟨k+1,η,ξ,r,HT.l (by rw[ag.l,show vs.j=m from by omega];exact HM.l)⟩;simp[intOf];omega
   have ak:((l.j:Int) != (vs.j:Int))=true:=by rw[bne_iff_ne];omega
   go_wp2_with (go_at_call 108;refine HV.l.y ?_;rintro e H ⟨vv,rfl,q,a⟩;obtain⟨V,J,rfl⟩:=q.qy;have r:=Tl b a;have G:=zi a d z;have y:L<H.o.q:=(by have:=a.q;omega))
   go_ret;exact⟨by rw[HF.l (by rw[HE.l];simp[S])];rfl,r⟩
  go_wp2;go_ret;exact⟨by rw[Nj HL.l λj s K=>HD.l j s K η];rfl,b⟩
 have ak:((os.j:Int) != (cs.j:Int))=true:=by rw[bne_iff_ne];omega
 have hB:vw cs (Z os)=false:=by unfold vw;simp[p]
 rw[hB];go_enter func75,ntmps75;go_wp2;go_ret;exact⟨rfl,φ⟩
end
end Go.Proofs.YteampbddflhngaaGreat
