package tests

import (
	"testing"

	"loop.example/g01301/impl"
)

// TestExamples4 has the example of chapter 4, clause by clause.
func TestExamples4(t *testing.T) {
	d := impl.Developer{PerLitre: 1000, Keeps: 100, Base: 20, PerThird: 2}
	same(t, "the developer", impl.ValidDeveloper(d), true)
	fresh, code := impl.NewBath(d, 2000)
	wantBath(t, "NewBath", vat{d, fresh}, fresh, code, impl.Bath{Volume: 2000}, impl.OK)
	n, code := impl.StrengthOf(d, fresh)
	wantNumber(t, "the strength", vat{d, fresh}, n, code, 1000, impl.OK)
	used, code := impl.DevelopSheet(d, fresh, 500)
	wantBath(t, "a sheet of 500", vat{d, fresh}, used, code, impl.Bath{Volume: 2000, Used: 500}, impl.OK)
	n, code = impl.StrengthOf(d, used)
	wantNumber(t, "the strength behind it", vat{d, used}, n, code, 750, impl.OK)
	n, code = impl.SlowerBy(750)
	wantNumber(t, "SlowerBy 750", vat{d, used}, n, code, 2, impl.OK)
	old, code := impl.RestBath(d, used, 50)
	wantBath(t, "50 hours more", vat{d, used}, old, code, impl.Bath{Volume: 2000, Used: 500, Age: 50}, impl.OK)
	n, code = impl.StrengthOf(d, old)
	wantNumber(t, "the strength behind them", vat{d, old}, n, code, 375, impl.OK)
	n, code = impl.SlowerBy(375)
	wantNumber(t, "SlowerBy 375", vat{d, old}, n, code, 5, impl.OK)
	n, code = impl.DevelopTime(d, old, 3, 18)
	wantNumber(t, "DevelopTime of 3 thirds at 18 degrees", vat{d, old}, n, code, 8000, impl.OK)
	n, code = impl.TimeOf(9)
	wantNumber(t, "the time of 9 thirds", vat{d, old}, n, code, 8000, impl.OK)
	n, code = impl.ReplenishFor(d, used, 875)
	wantNumber(t, "ReplenishFor 875", vat{d, used}, n, code, 997, impl.OK)
	n, code = impl.SheetsLeft(d, fresh, 500, 3)
	wantNumber(t, "SheetsLeft of 500", vat{d, fresh}, n, code, 3, impl.OK)
}
