package action

import "fenestra/api"

// limit tells which numbers the actions of a kind may have.
type limit struct{ n, m func(number int) bool }

// span has the numbers from low to high.
type span struct{ low, high int }

// has tells whether number is in s.
func (s span) has(number int) bool { return s.low <= number && number <= s.high }

// limits returns the limits of the kinds whose actions have numbers only, or nothing.
func limits() map[int]limit {
	zero, bit := span{0, 0}.has, span{0, 1}.has
	value, count := span{0, api.MaxParam}.has, span{1, api.MaxParam}.has
	either := func(one, other int) func(int) bool {
		return func(number int) bool { return number == one || number == other }
	}
	return map[int]limit{
		api.AcBell:        {zero, zero},
		api.AcBack:        {zero, zero},
		api.AcTab:         {zero, zero},
		api.AcFeed:        {zero, zero},
		api.AcReturn:      {zero, zero},
		api.AcLock:        {bit, zero},
		api.AcIndex:       {zero, zero},
		api.AcNext:        {zero, zero},
		api.AcSetTab:      {zero, zero},
		api.AcReverse:     {zero, zero},
		api.AcSave:        {zero, zero},
		api.AcRestore:     {zero, zero},
		api.AcKeypad:      {bit, zero},
		api.AcReset:       {zero, zero},
		api.AcAlign:       {zero, zero},
		api.AcSet:         {span{0, 3}.has, either(api.SetAscii, api.SetLines)},
		api.AcSingle:      {either(2, 3), zero},
		api.AcCursor:      {count, count},
		api.AcMove:        {span{0, 3}.has, count},
		api.AcLine:        {bit, count},
		api.AcColumn:      {count, zero},
		api.AcRow:         {count, zero},
		api.AcTabs:        {count, zero},
		api.AcBackTabs:    {count, zero},
		api.AcErase:       {span{0, 3}.has, zero},
		api.AcEraseLine:   {span{0, 2}.has, zero},
		api.AcInsert:      {count, zero},
		api.AcDelete:      {count, zero},
		api.AcBlank:       {count, zero},
		api.AcInsertLines: {count, zero},
		api.AcDeleteLines: {count, zero},
		api.AcScroll:      {bit, count},
		api.AcRepeat:      {count, zero},
		api.AcClearTab:    {either(0, 3), zero},
		api.AcMode:        {value, bit},
		api.AcDec:         {value, bit},
		api.AcMargins:     {value, value},
		api.AcShape:       {span{0, 6}.has, zero},
		api.AcReport:      {either(5, 6), zero},
		api.AcAsk:         {bit, zero},
		api.AcAskMode:     {value, bit},
	}
}
