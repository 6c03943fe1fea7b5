import Derived.Test.YteampbddflhngaaGreatR01
namespace Go.Proofs.YteampbddflhngaaGreat
open List renaming length→List.j
open _root_.Array renaming size→Array.q,toList→Array.v
open _root_.ByteArray renaming size→ByteArray.q,toList→ByteArray.v
open Go.TypeInfo renaming size→Go.TypeInfo.q
open Go.Calls renaming mono→Go.Calls.y
open Go.Value renaming bool→Go.Value.i,cells→Go.Value.E
open Go.TypeDesc renaming bool→Go.TypeDesc.i
open Go.Obj renaming cells→Go.Obj.E
open Option renaming some→Z,none→Y
open Go renaming World→U,Value→O
set_option linter.all false
set_option maxRecDepth 100000
set_option maxHeartbeats 2000000
open Go.Proofs.Tryz Go.RowKit
def NY(w:U)(v:O)(x:ByteArray)(L:κ)(c:SV w v (x::L))(g:∀y∈L,0<y.q)(u:(x.v == [33])=true)(s:L.j<=500)(r:L.j=0):
  Calls prog 152 #[v,.i false] w λe p=>kg Y w e p:=by
 obtain⟨n,m,i,k,l⟩:=info_parts SL;obtain⟨q,j,rfl⟩:=c.qy;obtain⟨t,z,rfl,d,a⟩:=c.E ζ;have f:=a 0 ζ;rw[vr,dZ] at f;go_enter func152,ntmps152;go_wp2_with (refine jF _ w rfl (.tmp 26) 30 9 (Z (.const (ι 1))) Y rfl underlying30 n m SZ _ (x::L) rfl c 1 (L.j+1) (ze rfl) (zh ⟨rfl,rfl⟩) η ζ L.j η ?_;intro o h b;simp only[mF,fx,uW] at b)
 exact zO (v:=.tuple #[.agg #[.i true,.string ByteArray.empty,ν],.i false]) (by simp[results,results152,go_sem];try rfl) rfl ⟨γ,_,_,_,_,_,rfl⟩
def QI(w:U)(v:O)(x:ByteArray)(L:κ)(g:SV w v (x::L))(j:∀y∈L,0<y.q)(F:(x.v == [33])=true)(D:L.j<=500)(C:¬L.j=0)(hs:xe (Tr (gB L 0) 0)=false):
  Calls prog 152 #[v,.i false] w λe q=>kg Y w e q:=by
 obtain⟨z,u,n,r,s⟩:=info_parts SL;obtain⟨B,p,rfl⟩:=g.qy;obtain⟨E,G,rfl,h,d⟩:=g.E ζ;have k:=d 0 ζ;rw[vr,dZ] at k;have i:0<(gB L 0).q:=by rw[←xJ (by omega:0<L.j)];exact j _ (zq _)
 go_enter func152,ntmps152;go_wp2_with (first|(refine jF _ w rfl (.tmp 26) 30 9 (Z (.const (ι 1))) Y rfl underlying30 z u SZ _ (x::L) rfl g 1 (L.j+1) (ze rfl) (zh ⟨rfl,rfl⟩) η ζ L.j η ?_;intro A l c;simp only[mF,fx,uW] at c;obtain⟨b,o,rfl,m,a⟩:=c.E η;have f:=a 0 η;rw[xJ η] at f;rw[vr] at f;have t:=Tg a;clear a)|(go_at_call 184;refine(gA _ _ i).y ?_;rintro e q ⟨rfl,rfl⟩))
 exact zO (v:=.tuple #[.agg #[.i true,.string ByteArray.empty,ν],.i false]) (by simp[results,results152,go_sem];try rfl) rfl ⟨γ,_,_,_,_,_,rfl⟩
def Jt(w:U)(v:O)(x:ByteArray)(L:κ)(g:SV w v (x::L))(j:∀y∈L,0<y.q)(G:(x.v == [33])=true)(E:L.j<=500)(D:¬L.j=0)(hs:xe (Tr (gB L 0) 0)=true)(B:L.j=1):
  Calls prog 152 #[v,.i false] w λe q=>kg (Z ⟨true,gB L 0,[]⟩) w e q:=by
 obtain⟨z,u,n,r,s⟩:=info_parts SL;obtain⟨C,p,rfl⟩:=g.qy;obtain⟨F,H,rfl,h,d⟩:=g.E ζ;have k:=d 0 ζ;rw[vr,dZ] at k;have i:0<(gB L 0).q:=by rw[←xJ (by omega:0<L.j)];exact j _ (zq _)
 go_enter func152,ntmps152;go_wp2_with (first|(refine jF _ w rfl (.tmp 26) 30 9 (Z (.const (ι 1))) Y rfl underlying30 z u SZ _ (x::L) rfl g 1 (L.j+1) (ze rfl) (zh ⟨rfl,rfl⟩) η ζ L.j η ?_;intro A l c;simp only[mF,fx,uW] at c;obtain⟨b,o,rfl,m,a⟩:=c.E η;have f:=a 0 η;rw[xJ η] at f;rw[vr] at f;have t:=Tg a;clear a)|(go_at_call 184;refine(gA _ _ i).y ?_;rintro e q ⟨rfl,rfl⟩))
 exact zO (v:=.tuple #[.agg #[.i true,.string (gB L 0),ν],.i true]) (by simp[results,results152,go_sem]) rfl ⟨γ,_,rfl,Tn.nil _⟩
def Iu(w:U)(v:O)(x:ByteArray)(L:κ)(g:SV w v (x::L))(j:∀y∈L,0<y.q)(H:(x.v == [33])=true)(F:L.j<=500)(E:¬L.j=0)(hs:xe (Tr (gB L 0) 0)=true)(C:¬L.j=1)(u:L.j<4):
  Calls prog 152 #[v,.i false] w λe q=>kg Y w e q:=by
 obtain⟨A,z,n,r,s⟩:=info_parts SL;obtain⟨D,p,rfl⟩:=g.qy;obtain⟨G,I,rfl,h,d⟩:=g.E ζ;have k:=d 0 ζ;rw[vr,dZ] at k;have i:0<(gB L 0).q:=by rw[←xJ (by omega:0<L.j)];exact j _ (zq _)
 go_enter func152,ntmps152;go_wp2_with (first|(refine jF _ w rfl (.tmp 26) 30 9 (Z (.const (ι 1))) Y rfl underlying30 A z SZ _ (x::L) rfl g 1 (L.j+1) (ze rfl) (zh ⟨rfl,rfl⟩) η ζ L.j η ?_;intro B l c;simp only[mF,fx,uW] at c;obtain⟨b,o,rfl,m,a⟩:=c.E η;have f:=a 0 η;rw[xJ η] at f;rw[vr] at f;have t:=Tg a;clear a)|(go_at_call 184;refine(gA _ _ i).y ?_;rintro e q ⟨rfl,rfl⟩))
 exact zO (v:=.tuple #[.agg #[.i true,.string (gB L 0),ν],.i false]) (by simp[results,results152,go_sem];try rfl) rfl ⟨γ,_,_,_,_,_,rfl⟩
def RT(w:U)(v:O)(x:ByteArray)(L:κ)(g:SV w v (x::L))(j:∀y∈L,0<y.q)(I:(x.v == [33])=true)(G:L.j<=500)(F:¬L.j=0)(hs:xe (Tr (gB L 0) 0)=true)(D:¬L.j=1)(z:¬L.j<4)(t:L.j%2=1):
  Calls prog 152 #[v,.i false] w λe q=>kg Y w e q:=by
 obtain⟨B,A,n,r,s⟩:=info_parts SL;obtain⟨E,p,rfl⟩:=g.qy;obtain⟨H,J,rfl,h,d⟩:=g.E ζ;have k:=d 0 ζ;rw[vr,dZ] at k;have i:0<(gB L 0).q:=by rw[←xJ (by omega:0<L.j)];exact j _ (zq _)
 go_enter func152,ntmps152;go_wp2_with (first|(refine jF _ w rfl (.tmp 26) 30 9 (Z (.const (ι 1))) Y rfl underlying30 B A SZ _ (x::L) rfl g 1 (L.j+1) (ze rfl) (zh ⟨rfl,rfl⟩) η ζ L.j η ?_;intro C l c;simp only[mF,fx,uW] at c;obtain⟨b,o,rfl,m,a⟩:=c.E η;have f:=a 0 η;rw[xJ η] at f;rw[vr] at f;have u:=Tg a;clear a)|(go_at_call 184;refine(gA _ _ i).y ?_;rintro e q ⟨rfl,rfl⟩))
 exact zO (v:=.tuple #[.agg #[.i true,.string (gB L 0),ν],.i false]) (by simp[results,results152,go_sem];try rfl) rfl ⟨γ,_,_,_,_,_,rfl⟩
def Rj(w:U)(v:O)(x:ByteArray)(L:κ)(g:SV w v (x::L))(j:∀y∈L,0<y.q)(K:(x.v == [33])=true)(I:L.j<=500)(H:¬L.j=0)(hs:xe (Tr (gB L 0) 0)=true)(F:¬L.j=1)(B:¬L.j<4)(u:¬L.j%2=1)(A:((gB L 1).v == [40])=false):
  Calls prog 152 #[v,.i false] w λe r=>kg Y w e r:=by
 obtain⟨D,C,p,s,t⟩:=info_parts SL;obtain⟨G,q,rfl⟩:=g.qy;obtain⟨J,M,rfl,h,d⟩:=g.E ζ;have k:=d 0 ζ;rw[vr,dZ] at k;have i:0<(gB L 0).q:=by rw[←xJ (by omega:0<L.j)];exact j _ (zq _)
 go_enter func152,ntmps152;go_wp2_with (first|(refine jF _ w rfl (.tmp 26) 30 9 (Z (.const (ι 1))) Y rfl underlying30 D C SZ _ (x::L) rfl g 1 (L.j+1) (ze rfl) (zh ⟨rfl,rfl⟩) η ζ L.j η ?_;intro E m c;simp only[mF,fx,uW] at c;obtain⟨b,o,rfl,n,a⟩:=c.E η;have f:=a 0 η;have l:=a 1 η;rw[xJ η] at f l;rw[vr] at f;have z:=Tg a;clear a)|(go_at_call 184;refine(gA _ _ i).y ?_;rintro e r ⟨rfl,rfl⟩))
 exact zO (v:=.tuple #[.agg #[.i true,.string (gB L 0),ν],.i false]) (by simp[results,results152,go_sem];try rfl) rfl ⟨γ,_,_,_,_,_,rfl⟩
def Lv(w:U)(v:O)(x:ByteArray)(L:κ)(g:SV w v (x::L))(k:∀y∈L,0<y.q)(N:(x.v == [33])=true)(K:L.j<=500)(J:¬L.j=0)(hs:xe (Tr (gB L 0) 0)=true)(H:¬L.j=1)(D:¬L.j<4)(A:¬L.j%2=1)(C:((gB L 1).v == [40])=true)(z:((gB L (L.j-1)).v == [41])=false):
  Calls prog 152 #[v,.i false] w λe s=>kg Y w e s:=by
 obtain⟨F,E,q,t,u⟩:=info_parts SL;obtain⟨I,r,rfl⟩:=g.qy;obtain⟨M,P,rfl,h,d⟩:=g.E ζ;have l:=d 0 ζ;rw[vr,dZ] at l;have j:0<(gB L 0).q:=by rw[←xJ (by omega:0<L.j)];exact k _ (zq _)
 go_enter func152,ntmps152;go_wp2_with (first|(refine jF _ w rfl (.tmp 26) 30 9 (Z (.const (ι 1))) Y rfl underlying30 F E SZ _ (x::L) rfl g 1 (L.j+1) (ze rfl) (zh ⟨rfl,rfl⟩) η ζ L.j η ?_;intro G n c;simp only[mF,fx,uW] at c;obtain⟨b,o,rfl,p,a⟩:=c.E η;have f:=a 0 η;have m:=a 1 η;have i:=a (L.j-1) η;rw[xJ η] at f m i;rw[vr] at f;have B:=Tg a;clear a)|(go_at_call 184;refine(gA _ _ j).y ?_;rintro e s ⟨rfl,rfl⟩))
 exact zO (v:=.tuple #[.agg #[.i true,.string (gB L 0),ν],.i false]) (by simp[results,results152,go_sem];try rfl) rfl ⟨γ,_,_,_,_,_,rfl⟩
end Go.Proofs.YteampbddflhngaaGreat
