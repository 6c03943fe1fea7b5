import Derived.Test.YteampbddflhngaaGreatR01
namespace Go.Proofs.YteampbddflhngaaGreat
open List renaming length→List.j
open _root_.Array renaming size→Array.q
open _root_.ByteArray renaming size→ByteArray.q
open Go.Calls renaming mono→Go.Calls.y
open Go.Value renaming bool→Go.Value.i,cells→Go.Value.E
open Go.TypeDesc renaming bool→Go.TypeDesc.i
open Go.Obj renaming cells→Go.Obj.E
open Option renaming none→Y
open Go renaming World→U,Value→O
set_option linter.all false
set_option maxRecDepth 100000
set_option maxHeartbeats 2000000
open Go.Proofs.Tryz Go.RowKit
def ME(w:U)(v:O)(L:κ)(b:Bool)(c:SV w v L)(f:∀y∈L,0<y.q)(j:L.j<=500)(k:TV L b=false)(i:L.j=0):
  Calls prog 152 #[v,.i b] w λe h=>kg Y w e h:=by
 have a:=nK k;obtain⟨g,d,rfl⟩:=c.qy;rcases a with a|⟨a,_⟩|⟨⟨a,_⟩,rfl⟩
 .go_enter func152,ntmps152;go_wp2;exact zO (v:=.tuple #[.agg #[.i false,.string ByteArray.empty,ν],.i false]) (by simp[results,results152,go_sem];try rfl) rfl ⟨γ,_,_,_,_,_,rfl⟩
 omega;omega
def Jf(w:U)(v:O)(L:κ)(c:Bool)(d:SV w v L)(h:∀y∈L,0<y.q)(p:L.j<=500)(q:TV L c=false)(n:¬L.j=0)(hs:xe (Tr (gB L 0) 0)=false):
  Calls prog 152 #[v,.i c] w λe l=>kg Y w e l:=by
 have a:=nK q;obtain⟨m,j,rfl⟩:=d.qy;have g:0<(gB L 0).q:=by rw[←xJ (by omega:0<L.j)];exact h _ (zq _)
 obtain⟨b,o,rfl,k,i⟩:=d.E η;have f:=i 0 η;rw[xJ η] at f;rw[vr] at f;rcases a with a|⟨_,a⟩|⟨⟨_,a⟩,rfl⟩;omega
 all_goals
  go_enter func152,ntmps152;go_wp2_with (go_at_call 184;refine(gA _ _ g).y ?_;rintro e l ⟨rfl,rfl⟩)
  exact zO (v:=.tuple #[.agg #[.i false,.string ByteArray.empty,ν],.i false]) (by simp[results,results152,go_sem];try rfl) rfl ⟨γ,_,_,_,_,_,rfl⟩
def IY(w:U)(v:O)(L:κ)(c:Bool)(d:SV w v L)(h:∀y∈L,0<y.q)(q:L.j<=500)(r:TV L c=false)(p:¬L.j=0)(hs:xe (Tr (gB L 0) 0)=true)(n:L.j=1):
  Calls prog 152 #[v,.i c] w λe l=>kg (some ⟨false,gB L 0,[]⟩) w e l:=by
 have a:=nK r;obtain⟨m,j,rfl⟩:=d.qy;have g:0<(gB L 0).q:=by rw[←xJ (by omega:0<L.j)];exact h _ (zq _)
 obtain⟨b,o,rfl,k,i⟩:=d.E η;have f:=i 0 η;rw[xJ η] at f;rw[vr] at f;rcases a with a|⟨_,a⟩|⟨⟨_,a⟩,rfl⟩;omega
 all_goals
  go_enter func152,ntmps152;go_wp2_with (go_at_call 184;refine(gA _ _ g).y ?_;rintro e l ⟨rfl,rfl⟩)
  exact zO (v:=.tuple #[.agg #[.i false,.string (gB L 0),ν],.i true]) (by simp[results,results152,go_sem]) rfl ⟨γ,_,rfl,Tn.nil _⟩
def Ma(w:U)(v:O)(L:κ)(c:Bool)(d:SV w v L)(h:∀y∈L,0<y.q)(r:L.j<=500)(s:TV L c=false)(q:¬L.j=0)(hs:xe (Tr (gB L 0) 0)=true)(n:¬L.j=1)(p:L.j<4):
  Calls prog 152 #[v,.i c] w λe l=>kg Y w e l:=by
 have a:=nK s;obtain⟨m,j,rfl⟩:=d.qy;have g:0<(gB L 0).q:=by rw[←xJ (by omega:0<L.j)];exact h _ (zq _)
 obtain⟨b,o,rfl,k,i⟩:=d.E η;have f:=i 0 η;rw[xJ η] at f;rw[vr] at f;rcases a with a|⟨_,a⟩|⟨⟨_,a⟩,rfl⟩;omega
 all_goals
  go_enter func152,ntmps152;go_wp2_with (go_at_call 184;refine(gA _ _ g).y ?_;rintro e l ⟨rfl,rfl⟩)
  exact zO (v:=.tuple #[.agg #[.i false,.string (gB L 0),ν],.i false]) (by simp[results,results152,go_sem];try rfl) rfl ⟨γ,_,_,_,_,_,rfl⟩
def Qh(w:U)(v:O)(L:κ)(c:Bool)(d:SV w v L)(h:∀y∈L,0<y.q)(s:L.j<=500)(t:TV L c=false)(r:¬L.j=0)(hs:xe (Tr (gB L 0) 0)=true)(n:¬L.j=1)(q:¬L.j<4)(p:L.j%2=1):
  Calls prog 152 #[v,.i c] w λe l=>kg Y w e l:=by
 have a:=nK t;obtain⟨m,j,rfl⟩:=d.qy;have g:0<(gB L 0).q:=by rw[←xJ (by omega:0<L.j)];exact h _ (zq _)
 obtain⟨b,o,rfl,k,i⟩:=d.E η;have f:=i 0 η;rw[xJ η] at f;rw[vr] at f;rcases a with a|⟨_,a⟩|⟨⟨_,a⟩,rfl⟩;omega
 all_goals
  go_enter func152,ntmps152;go_wp2_with (go_at_call 184;refine(gA _ _ g).y ?_;rintro e l ⟨rfl,rfl⟩)
  exact zO (v:=.tuple #[.agg #[.i false,.string (gB L 0),ν],.i false]) (by simp[results,results152,go_sem];try rfl) rfl ⟨γ,_,_,_,_,_,rfl⟩
def I7(w:U)(v:O)(L:κ)(c:Bool)(d:SV w v L)(i:∀y∈L,0<y.q)(u:L.j<=500)(x:TV L c=false)(t:¬L.j=0)(hs:xe (Tr (gB L 0) 0)=true)(s:¬L.j=1)(q:¬L.j<4)(n:¬L.j%2=1)(p:((gB L 1).toList == [40])=false):
  Calls prog 152 #[v,.i c] w λe m=>kg Y w e m:=by
 have a:=nK x;obtain⟨r,k,rfl⟩:=d.qy;have h:0<(gB L 0).q:=by rw[←xJ (by omega:0<L.j)];exact i _ (zq _)
 obtain⟨b,o,rfl,l,f⟩:=d.E η;have g:=f 0 η;have j:=f 1 η;rw[xJ η] at g j;rw[vr] at g;rcases a with a|⟨_,a⟩|⟨⟨_,a⟩,rfl⟩;omega
 all_goals
  go_enter func152,ntmps152;go_wp2_with (go_at_call 184;refine(gA _ _ h).y ?_;rintro e m ⟨rfl,rfl⟩)
  exact zO (v:=.tuple #[.agg #[.i false,.string (gB L 0),ν],.i false]) (by simp[results,results152,go_sem];try rfl) rfl ⟨γ,_,_,_,_,_,rfl⟩
def Ph(w:U)(v:O)(L:κ)(c:Bool)(f:SV w v L)(j:∀y∈L,0<y.q)(z:L.j<=500)(A:TV L c=false)(x:¬L.j=0)(hs:xe (Tr (gB L 0) 0)=true)(u:¬L.j=1)(s:¬L.j<4)(q:¬L.j%2=1)(r:((gB L 1).toList == [40])=true)(p:((gB L (L.j-1)).toList == [41])=false):
  Calls prog 152 #[v,.i c] w λe n=>kg Y w e n:=by
 have a:=nK A;obtain⟨t,l,rfl⟩:=f.qy;have i:0<(gB L 0).q:=by rw[←xJ (by omega:0<L.j)];exact j _ (zq _)
 obtain⟨b,o,rfl,m,d⟩:=f.E η;have g:=d 0 η;have k:=d 1 η;have h:=d (L.j-1) η;rw[xJ η] at g k h;rw[vr] at g;rcases a with a|⟨_,a⟩|⟨⟨_,a⟩,rfl⟩;omega
 all_goals
  go_enter func152,ntmps152;go_wp2_with (go_at_call 184;refine(gA _ _ i).y ?_;rintro e n ⟨rfl,rfl⟩)
  exact zO (v:=.tuple #[.agg #[.i false,.string (gB L 0),ν],.i false]) (by simp[results,results152,go_sem];try rfl) rfl ⟨γ,_,_,_,_,_,rfl⟩
end Go.Proofs.YteampbddflhngaaGreat
